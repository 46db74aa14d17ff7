package tests

import (
	"fmt"
	"math"
	"math/rand"
	"regexp"
	"slices"
	"strconv"
	"strings"
	"testing"

	"loop.example/g00446/impl"
)

var entryWord = regexp.MustCompile(`^(\d+)/(\d+)([bs])(\d+)(?::(\d+))?(?:-(\d+))?(?:@(\d+))?$`)

// ledgerOf reads entries: Id/Owner, b (buys) or s (sells), Amount, and then, as far as they are not 0, :Filled, -Cut and @Paid.
func ledgerOf(text string) []impl.Entry {
	var out []impl.Entry
	for _, word := range strings.Fields(text) {
		m := entryWord.FindStringSubmatch(word)
		if m == nil {
			panic("no entry: " + word)
		}
		var n [8]int64
		for i := 1; i < 8; i++ {
			n[i], _ = strconv.ParseInt(m[i], 10, 64)
		}
		out = append(out, impl.Entry{Id: n[1], Owner: n[2], Buy: m[3] == "b", Amount: n[4], Filled: n[5], Cut: n[6], Paid: n[7]})
	}
	return out
}

// rightEntryByRule holds each number against its own limits, and then the sums, which are small by that.
func rightEntryByRule(e impl.Entry) bool {
	in := func(n, least, most int64) bool { return least <= n && n <= most }
	if !in(e.Id, 1, 1000000) || !in(e.Owner, 1, 9) || !in(e.Amount, 0, 1000000) || !in(e.Filled, 0, 1000000) || !in(e.Cut, 0, 1000000) {
		return false
	}
	return e.Filled+e.Cut <= e.Amount && in(e.Paid, 0, 10000*e.Filled)
}

func rightLedgerByRule(l []impl.Entry) bool {
	if len(l) > 60 {
		return false
	}
	last := int64(0)
	for _, e := range l {
		if !rightEntryByRule(e) || e.Id <= last {
			return false
		}
		last = e.Id
	}
	return true
}

func entryIn(l []impl.Entry, id int64) *impl.Entry {
	for i := range l {
		if l[i].Id == id {
			return &l[i]
		}
	}
	return nil
}

// ledgerByRule does one Event after the other to a list of its own.
func ledgerByRule(l []impl.Entry, c impl.Cmd, events []impl.Event) impl.LedgerOut {
	if len(l) > 400 || len(events) > 400 {
		return impl.LedgerOut{Code: impl.ErrSize}
	}
	right := rightLedgerByRule(l) && impl.CmdRight(c)
	for _, e := range events {
		right = right && impl.EventRight(e)
	}
	if !right {
		return impl.LedgerOut{Code: impl.ErrForm}
	}
	out := slices.Clone(l)
	for _, e := range events {
		var code int64
		if out, code = afterEvent(out, c, e); code != impl.OK {
			return impl.LedgerOut{Code: code}
		}
	}
	return impl.LedgerOut{Ledger: out}
}

func afterEvent(l []impl.Entry, c impl.Cmd, e impl.Event) ([]impl.Entry, int64) {
	one, other := entryIn(l, e.Id), entryIn(l, e.Other)
	switch {
	case e.Kind == impl.EvRefused:
		return l, impl.OK
	case e.Kind == impl.EvTaken:
		return afterTaken(l, c, e.Id)
	case one == nil || e.Kind == impl.EvFill && other == nil:
		return nil, impl.ErrNone
	case e.Kind == impl.EvFill:
		for _, entry := range []*impl.Entry{one, other} {
			entry.Filled += e.Amount
			entry.Paid += e.Price * e.Amount
		}
	case e.Kind == impl.EvCut:
		one.Cut += e.Amount
	case e.Kind == impl.EvChanged:
		one.Amount = one.Filled + one.Cut + e.Amount
	}
	if !rightLedgerByRule(l) {
		return nil, impl.ErrRange
	}
	return l, impl.OK
}

func afterTaken(l []impl.Entry, c impl.Cmd, id int64) ([]impl.Entry, int64) {
	switch {
	case entryIn(l, id) != nil:
		return nil, impl.ErrThere
	case len(l) == 60:
		return nil, impl.ErrFull
	case c.Kind != impl.CmLimit && c.Kind != impl.CmMarket:
		return nil, impl.ErrForm
	}
	l = append(l, impl.Entry{Id: id, Owner: c.Owner, Buy: c.Buy, Amount: c.Amount})
	slices.SortFunc(l, func(a, b impl.Entry) int { return int(a.Id - b.Id) })
	return l, impl.OK
}

func positionByRule(l []impl.Entry, owner int64) impl.Position {
	var p impl.Position
	for _, e := range l {
		if e.Owner == owner && e.Buy {
			p.Bought, p.Paid = p.Bought+e.Filled, p.Paid+e.Paid
		}
		if e.Owner == owner && !e.Buy {
			p.Sold, p.Got = p.Sold+e.Filled, p.Got+e.Paid
		}
	}
	return p
}

func evenByRule(l []impl.Entry) bool {
	var amounts, money int64
	for owner := int64(1); owner <= 9; owner++ {
		p := positionByRule(l, owner)
		amounts, money = amounts+p.Bought-p.Sold, money+p.Paid-p.Got
	}
	return amounts == 0 && money == 0
}

func strangeNumbers() []int64 {
	return []int64{math.MinInt64, math.MinInt64 + 1, -1, 0, impl.MaxTime, impl.MaxTime + 1, math.MaxInt64}
}

// tellsAll: does each call that asks of a right ledger tell what the document says, of what is in it, and of what is not?
func tellsAll(t *testing.T, what string, l []impl.Entry) {
	t.Helper()
	same(t, what+": is it right?", impl.LedgerRight(l), true)
	same(t, what+": is it even?", impl.Even(l), evenByRule(l))
	ids := strangeNumbers()
	for _, e := range l {
		ids = append(ids, e.Id-1, e.Id, e.Id+1)
	}
	for _, id := range ids {
		var want impl.Entry
		if entry := entryIn(l, id); entry != nil {
			want = *entry
		}
		same(t, fmt.Sprint(what, ": the entry ", id), impl.EntryOf(l, id), want)
		same(t, fmt.Sprint(what, ": left of ", id), impl.LeftOf(l, id), want.Amount-want.Filled-want.Cut)
	}
	for owner := int64(-1); owner <= 11; owner++ {
		same(t, fmt.Sprint(what, ": the position of ", owner), impl.PositionOf(l, owner), positionByRule(l, owner))
	}
}

// doesLedger: is this what the document says, with a right ledger behind it, and with nothing that was handed in changed or shared?
func doesLedger(t *testing.T, what string, l []impl.Entry, c impl.Cmd, events []impl.Event) impl.LedgerOut {
	t.Helper()
	l, events = slices.Clone(l), slices.Clone(events)
	entriesBefore, eventsBefore := slices.Clone(l), slices.Clone(events)
	out := impl.LedgerDo(l, c, events)
	want := ledgerByRule(l, c, events)
	if out.Code != want.Code || !slices.Equal(out.Ledger, want.Ledger) {
		t.Errorf("%s: got %+v, want %+v", what, out, want)
	}
	if !slices.Equal(l, entriesBefore) || !slices.Equal(events, eventsBefore) {
		t.Errorf("%s: what was handed in is changed", what)
	}
	if out.Code == impl.OK && !impl.LedgerRight(out.Ledger) {
		t.Errorf("%s: the ledger is not right then: %+v", what, out.Ledger)
	}
	fresh(t, what, out, l, events)
	return out
}

// fullLedger has that many entries, of the Ids 10, 20 and so on, of all Owners and both sides, some of them filled and cut.
func fullLedger(many int) []impl.Entry {
	var out []impl.Entry
	for i := int64(1); i <= int64(many); i++ {
		out = append(out, impl.Entry{Id: 10 * i, Owner: i%9 + 1, Buy: i%2 == 0, Amount: 20 + i, Filled: i % 7, Cut: i % 5, Paid: 100 * (i % 7)})
	}
	return out
}

const someLedgerText = "3/1s5:3@300 4/2b3:3@300 7/9b1000-400 8/1b12:2-10@1 9/1s8"

func rightLedgers() map[string][]impl.Entry {
	out := map[string][]impl.Entry{
		"none":                     nil,
		"an empty list":            {},
		"MaxEntries":               fullLedger(60),
		"one less than MaxEntries": fullLedger(59),
		"an entry of nothing":      {{Id: 1, Owner: 1}},
	}
	for _, text := range []string{
		someLedgerText, "1/1b0 1000000/9s0", "999999/1b1000000:1000000@10000000000 1000000/1s1000000-1000000", "5/5b1000000:999999-1@9999990000",
		"3/1b10:10@100000 4/2s10:10@100000", "3/1b10:9-1@0 4/2s10:9-1@90000", "1/1b5 2/1b5 3/1s5 4/1s5", "3/1b1000 4/1s1000000:999001@1",
	} {
		out[text] = ledgerOf(text)
	}
	return out
}

func wrongLedgers() map[string][]impl.Entry {
	out := map[string][]impl.Entry{
		"one more than MaxEntries": fullLedger(61),
		"MaxList":                  fullLedger(400),
		"the zero one":             {{}},
		"two zero ones":            {{}, {}},
		"Ids below 0":              {{Id: -2, Owner: 1}, {Id: -1, Owner: 1}},
	}
	for _, text := range []string{
		"0/1b5", "1000001/1b5", "1/0b5", "1/10b5", "1/1b1000001", "1/1b5:6", "1/1b5-6", "1/1b5:3-3", "1/1b5:1@10001", "1/1b5@1", "1/1b1000001:1000001", "1/1s1000001-1000001",
		"1/1b5 1/1b5", "2/1b5 1/1b5", "1/1b5 3/1b5 3/2s5", "1/1b5 3/1b5 2/1s5", "2/1b5 1/1b5 3/1b5",
		"1/1b5 2/2s5:6 3/3b5", "1/1b5 2/2s5 3/3b5@1", "1/1b5:6 2/2s5",
	} {
		out[text] = ledgerOf(text)
	}
	return out
}

func TestLedgerWrittenOut(t *testing.T) {
	sell, buy := cmdOf("limit 1 sell 100 5 day peak 2"), cmdOf("market 2 buy 3")
	alike(t, "an empty one, and nothing told", impl.LedgerDo(nil, rollOf(), nil), impl.LedgerOut{})
	alike(t, "taken", impl.LedgerDo(nil, sell, eventsOf("taken 4")), impl.LedgerOut{Ledger: []impl.Entry{{Id: 4, Owner: 1, Amount: 5}}})
	alike(t, "taken, and filled", impl.LedgerDo(ledgerOf("4/1s5"), buy, eventsOf("taken 5; fill 5 4 100 2; fill 5 4 99 1")),
		impl.LedgerOut{Ledger: []impl.Entry{{Id: 4, Owner: 1, Amount: 5, Filled: 3, Paid: 299}, {Id: 5, Owner: 2, Buy: true, Amount: 3, Filled: 3, Paid: 299}}})
	alike(t, "cut", impl.LedgerDo(ledgerOf("4/1s5:3@299"), cmdOf("cancel 1 4"), eventsOf("cut 4 2")), impl.LedgerOut{Ledger: ledgerOf("4/1s5:3-2@299")})
	alike(t, "changed up", impl.LedgerDo(ledgerOf("4/1s6:3-1@299"), cmdOf("replace 1 4 90 7"), eventsOf("changed 4 90 7")), impl.LedgerOut{Ledger: ledgerOf("4/1s11:3-1@299")})
	alike(t, "changed down", impl.LedgerDo(ledgerOf("4/1s6:3-1@299"), cmdOf("replace 1 4 90 1"), eventsOf("changed 4 90 1")), impl.LedgerOut{Ledger: ledgerOf("4/1s5:3-1@299")})
	alike(t, "refused", impl.LedgerDo(ledgerOf("4/1s5"), buy, eventsOf("refused 9")), impl.LedgerOut{Ledger: ledgerOf("4/1s5")})
	alike(t, "an Id ahead of the others", impl.LedgerDo(ledgerOf("4/1s5 6/1s5"), buy, eventsOf("taken 3")), impl.LedgerOut{Ledger: ledgerOf("3/2b3 4/1s5 6/1s5")})
	alike(t, "an Id between the others", impl.LedgerDo(ledgerOf("4/1s5 6/1s5"), buy, eventsOf("taken 5")), impl.LedgerOut{Ledger: ledgerOf("4/1s5 5/2b3 6/1s5")})
	l := ledgerOf("4/1s5:3-1@299 5/2b3:3@299")
	same(t, "an entry", impl.EntryOf(l, 4), impl.Entry{Id: 4, Owner: 1, Amount: 5, Filled: 3, Cut: 1, Paid: 299})
	same(t, "no entry", impl.EntryOf(l, 6), impl.Entry{})
	same(t, "left of 4", impl.LeftOf(l, 4), 1)
	same(t, "left of 5", impl.LeftOf(l, 5), 0)
	same(t, "left of 6", impl.LeftOf(l, 6), 0)
	same(t, "the seller's position", impl.PositionOf(l, 1), impl.Position{Sold: 3, Got: 299})
	same(t, "the buyer's position", impl.PositionOf(l, 2), impl.Position{Bought: 3, Paid: 299})
	same(t, "another one's position", impl.PositionOf(l, 3), impl.Position{})
	same(t, "is it even?", impl.Even(l), true)
}

func TestLedgerRight(t *testing.T) {
	for what, l := range rightLedgers() {
		same(t, what+": the rule", rightLedgerByRule(l), true)
		tellsAll(t, what, l)
	}
	for what, l := range wrongLedgers() {
		same(t, what, impl.LedgerRight(l), false)
	}
}

func TestLedgerRightAtTheLimits(t *testing.T) {
	numbers := []struct {
		what  string
		least int64
		most  int64
		turn  func(e *impl.Entry, n int64)
	}{
		{"Id", 6, 8, func(e *impl.Entry, n int64) { e.Id = n }},
		{"Owner", 1, 9, func(e *impl.Entry, n int64) { e.Owner = n }},
		{"Amount", 0, 1000000, func(e *impl.Entry, n int64) { *e = impl.Entry{Id: 7, Owner: 2, Amount: n} }},
		{"Amount, of 5 filled and 4 cut", 9, 1000000, func(e *impl.Entry, n int64) { e.Amount, e.Filled, e.Cut = n, 5, 4 }},
		{"Filled", 0, 1000000, func(e *impl.Entry, n int64) { e.Amount, e.Filled = 1000000, n }},
		{"Filled, of an Amount of 7", 0, 7, func(e *impl.Entry, n int64) { e.Amount, e.Filled = 7, n }},
		{"Filled, of an Amount of 7, and 3 cut", 0, 4, func(e *impl.Entry, n int64) { e.Amount, e.Filled, e.Cut = 7, n, 3 }},
		{"Cut", 0, 1000000, func(e *impl.Entry, n int64) { e.Amount, e.Cut = 1000000, n }},
		{"Cut, of an Amount of 7", 0, 7, func(e *impl.Entry, n int64) { e.Amount, e.Cut = 7, n }},
		{"Cut, of an Amount of 7, and 3 filled", 0, 4, func(e *impl.Entry, n int64) { e.Amount, e.Filled, e.Cut = 7, 3, n }},
		{"Paid, of none filled", 0, 0, func(e *impl.Entry, n int64) { e.Paid = n }},
		{"Paid, of 1 filled", 0, 10000, func(e *impl.Entry, n int64) { e.Filled, e.Paid = 1, n }},
		{"Paid, of 1000000 filled", 0, 10000000000, func(e *impl.Entry, n int64) { e.Amount, e.Filled, e.Paid = 1000000, 1000000, n }},
	}
	for _, number := range numbers {
		for _, base := range []int64{math.MinInt64, -10000, -1, 0, 1, 4, 6, 8, 9, 10, 20, 9999, 10001, 999999, 1000001, number.least, number.most, 10000000000, math.MaxInt64} {
			for _, n := range []int64{base - 1, base, base + 1} {
				for place := range 3 {
					l := ledgerOf("5/1b20 7/2s20 9/3b20")
					number.turn(&l[1], n)
					least, most := number.least, number.most
					// Without its neighbours an Id has just its own limits.
					if place != 1 {
						l = l[1:2]
					}
					if place != 1 && number.what == "Id" {
						least, most = 1, 1000000
					}
					l[len(l)/2].Buy = place == 2
					same(t, fmt.Sprintf("%s %d, place %d", number.what, n, place), impl.LedgerRight(l), n >= least && n <= most)
				}
			}
		}
	}
}

// Each sum of an entry against each other, with numbers whose sums and products are too great for an int64.
func TestLedgerRightOfSums(t *testing.T) {
	numbers := []int64{math.MinInt64, math.MinInt64 + 1, -1000000, -1, 0, 1, 2, 3, 499999, 500000, 500001, 999999, 1000000, 1000001, 1 << 62, math.MaxInt64 - 1, math.MaxInt64}
	paids := []int64{math.MinInt64, -10000, -1, 0, 1, 9999, 10000, 10001, 30000, 30001, 4999990000, 10000000000, 10000000001, math.MaxInt64}
	rights := 0
	for _, amount := range numbers {
		for _, filled := range numbers {
			for _, cut := range numbers {
				for _, paid := range paids {
					l := []impl.Entry{{Id: 3, Owner: 4, Buy: true, Amount: amount, Filled: filled, Cut: cut, Paid: paid}}
					want := rightLedgerByRule(l)
					if got := impl.LedgerRight(l); got != want {
						t.Errorf("%+v: got %v, want %v", l, got, want)
					}
					if want {
						rights++
						same(t, "left", impl.LeftOf(l, 3), amount-filled-cut)
					}
				}
			}
		}
	}
	same(t, "are there right ones?", rights > 100, true)
}

func TestLedgerRightOfIds(t *testing.T) {
	ids := []int64{math.MinInt64, -1, 0, 1, 2, 3, 999999, 1000000, 1000001, math.MaxInt64}
	for _, first := range ids {
		for _, second := range ids {
			for _, third := range ids {
				l := []impl.Entry{{Id: first, Owner: 1, Amount: 5}, {Id: second, Owner: 1, Amount: 5}, {Id: third, Owner: 1, Amount: 5}}
				same(t, fmt.Sprint(first, second, third), impl.LedgerRight(l), first >= 1 && first < second && second < third && third <= 1000000)
			}
		}
	}
	for at := range 59 {
		l := fullLedger(60)
		l[at+1].Id = l[at].Id
		same(t, fmt.Sprint("two alike at ", at), impl.LedgerRight(l), false)
		l[at+1].Id = l[at].Id - 5
		same(t, fmt.Sprint("falling at ", at), impl.LedgerRight(l), false)
		l[at+1].Id = l[at].Id + 1
		same(t, fmt.Sprint("rising at ", at), impl.LedgerRight(l), true)
		l[at+1].Owner = 0
		same(t, fmt.Sprint("a faulty one behind ", at), impl.LedgerRight(l), false)
	}
}

func TestLedgerRightOfMany(t *testing.T) {
	for _, many := range []int{0, 1, 2, 59, 60, 61, 62, 100, 399, 400, 401, 402, 1000, 100000} {
		l := fullLedger(many)
		right := many <= 60
		same(t, fmt.Sprint(many, " entries"), impl.LedgerRight(l), right)
		same(t, fmt.Sprint(many, " entries, found"), impl.EntryOf(l, 10) != impl.Entry{}, right && many > 0)
		same(t, fmt.Sprint(many, " entries, left"), impl.LeftOf(l, 10) > 0, right && many > 0)
		same(t, fmt.Sprint(many, " entries, a position"), impl.PositionOf(l, 2) != impl.Position{}, right && many > 0)
	}
}

// Of a ledger that is not right each call tells the zero answer.
func TestLedgerCallsOfOneThatIsNotRight(t *testing.T) {
	wrong := wrongLedgers()
	wrong["one more than MaxList"] = fullLedger(401)
	for _, even := range []string{"1/1b5 1/2s5", "0/1b5", "2/1b5:1@2 1/1s5:1@2", "1/1b5:6@5 2/2s6:6@5"} {
		wrong["it would be even: "+even] = ledgerOf(even)
	}
	for what, l := range wrong {
		before := slices.Clone(l)
		same(t, what+": LedgerRight", impl.LedgerRight(l), false)
		same(t, what+": Even", impl.Even(l), false)
		for _, id := range append(strangeNumbers(), 1, 2, 3, 5, 10, 20) {
			same(t, what+": EntryOf", impl.EntryOf(l, id), impl.Entry{})
			same(t, what+": LeftOf", impl.LeftOf(l, id), 0)
			same(t, what+": PositionOf", impl.PositionOf(l, id), impl.Position{})
		}
		same(t, what+": handed in", slices.Equal(l, before), true)
	}
}

// namedIds are the Ids of a ledger's first, middle and last entries, and some that none of them has.
func namedIds(l []impl.Entry) []int64 {
	ids := []int64{1, 5, 999998, 1000000}
	for at, e := range l {
		if at < 2 || at > len(l)-2 || at == len(l)/2 {
			ids = append(ids, e.Id)
		}
	}
	slices.Sort(ids)
	return slices.Compact(ids)
}

// eventsNaming are Events of every Kind of these Ids, with small and great numbers.
func eventsNaming(ids []int64) []impl.Event {
	out := []impl.Event{{Kind: impl.EvRefused, Id: 1}, {Kind: impl.EvRefused, Id: 20}}
	for _, id := range ids {
		out = append(out, impl.Event{Kind: impl.EvTaken, Id: id})
		for _, amount := range []int64{1, 2, 1000} {
			out = append(out, impl.Event{Kind: impl.EvCut, Id: id, Amount: amount}, impl.Event{Kind: impl.EvChanged, Id: id, Price: 1, Amount: amount}, impl.Event{Kind: impl.EvChanged, Id: id, Price: 10000, Amount: amount})
			for _, other := range ids {
				if other != id {
					out = append(out, impl.Event{Kind: impl.EvFill, Id: id, Other: other, Price: 1 + 9999*(id%2), Amount: amount})
				}
			}
		}
	}
	return out
}

// Promise 17, for each Event alone, whichever command it was told of.
func TestLedgerStaysRightOfEachEvent(t *testing.T) {
	codes := map[int64]int{}
	for what, l := range rightLedgers() {
		for n, c := range baseCmds() {
			for _, e := range eventsNaming(namedIds(l)) {
				said := fmt.Sprintf("%s, %s: %s", what, textOfCmd(c), textOfEvent(e))
				out := doesLedger(t, said, l, c, []impl.Event{e})
				codes[out.Code]++
				if out.Code == impl.OK && n == 0 {
					tellsAll(t, said, out.Ledger)
				}
			}
		}
	}
	for _, code := range []int64{impl.OK, impl.ErrThere, impl.ErrFull, impl.ErrForm, impl.ErrNone, impl.ErrRange} {
		same(t, fmt.Sprint("was there the code ", code), codes[code] > 0, true)
	}
}

// Promise 17, for several Events together, mostly such that all goes well.
func TestLedgerStaysRightOfSeveralEvents(t *testing.T) {
	codes := map[int64]int{}
	for seed := range int64(150) {
		random := rand.New(rand.NewSource(seed))
		var l []impl.Entry
		if seed%4 > 0 {
			l = fullLedger(random.Intn(61))
		}
		for range 30 {
			c := baseCmds()[random.Intn(6)]
			events := someTidings(random, l, random.Intn(12))
			what := fmt.Sprintf("seed %d, %+v: %q", seed, l, textOfEvents(events))
			out := doesLedger(t, what, l, c, events)
			codes[out.Code]++
			if out.Code == impl.OK {
				tellsAll(t, what, out.Ledger)
				l = out.Ledger
			}
		}
	}
	for _, code := range []int64{impl.OK, impl.ErrThere, impl.ErrFull, impl.ErrNone, impl.ErrRange} {
		same(t, fmt.Sprint("was there the code ", code), codes[code] > 10, true)
	}
}

func someTidings(random *rand.Rand, l []impl.Entry, many int) []impl.Event {
	ids := []int64{random.Int63n(1000) + 1}
	for _, e := range l {
		ids = append(ids, e.Id)
	}
	var out []impl.Event
	for range many {
		e := impl.Event{Kind: random.Int63n(5) + 1, Id: ids[random.Intn(len(ids))], Other: ids[random.Intn(len(ids))], Price: random.Int63n(10000) + 1, Amount: random.Int63n(4) + 1}
		switch e.Kind {
		case impl.EvTaken:
			e = takenOf(random.Int63n(1000) + 1)
			ids = append(ids, e.Id)
		case impl.EvFill:
			if e.Other == e.Id {
				e = refusalOf(1)
			}
		case impl.EvCut:
			e.Other, e.Price = 0, 0
		case impl.EvChanged:
			e.Other, e.Amount = 0, e.Amount*10
		default:
			e = refusalOf(random.Int63n(20) + 1)
		}
		out = append(out, e)
	}
	return out
}

// ledgerCode: is the whole list refused with that code, and nothing told beside it?
func ledgerCode(t *testing.T, what string, l []impl.Entry, c impl.Cmd, events []impl.Event, code int64) {
	t.Helper()
	out := doesLedger(t, what, l, c, events)
	same(t, what+": its code", out.Code, code)
	if code != impl.OK {
		alike(t, what, out, impl.LedgerOut{Code: code})
	}
}

func TestLedgerDoOfTaken(t *testing.T) {
	l := ledgerOf(someLedgerText)
	full := fullLedger(60)
	for _, c := range rightCmds() {
		takes := c.Kind == impl.CmLimit || c.Kind == impl.CmMarket
		code := int64(impl.ErrForm)
		if takes {
			code = impl.OK
		}
		what := textOfCmd(c)
		ledgerCode(t, what, l, c, eventsOf("taken 5"), code)
		ledgerCode(t, what+", one that is there", l, c, eventsOf("taken 7"), impl.ErrThere)
		ledgerCode(t, what+", full", full, c, eventsOf("taken 5"), impl.ErrFull)
		ledgerCode(t, what+", full, one that is there", full, c, eventsOf("taken 600"), impl.ErrThere)
		ledgerCode(t, what+", nothing taken", l, c, eventsOf("cut 7 1"), impl.OK)
		if takes {
			same(t, what+": the entry", impl.EntryOf(impl.LedgerDo(l, c, eventsOf("taken 5")).Ledger, 5), impl.Entry{Id: 5, Owner: c.Owner, Buy: c.Buy, Amount: c.Amount})
		}
	}
	c := limitOf(true, impl.LfNow)
	ledgerCode(t, "twice in one list", nil, c, eventsOf("taken 5; taken 5"), impl.ErrThere)
	ledgerCode(t, "twice, one filled up between", ledgerOf("4/1s5"), c, eventsOf("taken 5; fill 5 4 9 5; taken 4"), impl.ErrThere)
	ledgerCode(t, "one that has gone", ledgerOf("4/1s5-5"), c, eventsOf("taken 4"), impl.ErrThere)
	ledgerCode(t, "two in one list", nil, c, eventsOf("taken 6; taken 5"), impl.OK)
	for _, id := range []int64{1, 2, 6, 999999, 1000000} {
		ledgerCode(t, fmt.Sprint("the Id ", id), l, c, []impl.Event{takenOf(id)}, impl.OK)
	}
}

func TestLedgerDoUpToMaxEntries(t *testing.T) {
	c := cmdOf("limit 3 sell 7 9 stay")
	var l []impl.Entry
	var events []impl.Event
	for id := int64(70); id > 10; id-- {
		events = append(events, takenOf(id))
		out := doesLedger(t, fmt.Sprint("one by one, ", id), l, c, []impl.Event{takenOf(id)})
		alike(t, fmt.Sprint("all at once, ", id), impl.LedgerDo(nil, c, events), out)
		l = out.Ledger
	}
	same(t, "as many as may be", len(l), impl.MaxEntries)
	tellsAll(t, "as many as may be", l)
	ledgerCode(t, "one more", l, c, eventsOf("taken 10"), impl.ErrFull)
	ledgerCode(t, "one more, all at once", nil, c, append(slices.Clone(events), takenOf(10)), impl.ErrFull)
	ledgerCode(t, "one more, of all that has gone", ledgerOf("1/1b5-5"), c, append(slices.Clone(events), takenOf(10)), impl.ErrFull)
	ledgerCode(t, "the last one", fullLedger(59), c, eventsOf("taken 5"), impl.OK)
	ledgerCode(t, "the last one, and one more", fullLedger(59), c, eventsOf("taken 5; taken 6"), impl.ErrFull)
	ledgerCode(t, "full, and nothing is taken", fullLedger(60), c, eventsOf("cut 600 1; changed 590 3 4; fill 600 590 2 2; refused 9"), impl.OK)
	for many := 56; many <= 60; many++ {
		for more := range 6 {
			code := int64(impl.OK)
			if many+more > 60 {
				code = impl.ErrFull
			}
			ledgerCode(t, fmt.Sprint(many, " and ", more), fullLedger(many), c, eventsOf("taken 1; taken 2; taken 3; taken 4; taken 5")[:min(more, 5)], code)
		}
	}
}

// ledgerCases have texts for a ledger and for what is told, and the code.
func ledgerCases(t *testing.T, cases []struct {
	ledger string
	told   string
	code   int64
}) {
	t.Helper()
	for _, one := range cases {
		for _, c := range []impl.Cmd{marketOf(true), cancelOf(3), rollOf()} {
			ledgerCode(t, one.ledger+", "+textOfCmd(c)+": "+one.told, ledgerOf(one.ledger), c, eventsOf(one.told), one.code)
		}
	}
}

func TestLedgerDoWithAndWithoutAnEntry(t *testing.T) {
	ledgerCases(t, []struct {
		ledger string
		told   string
		code   int64
	}{
		{"", "fill 3 4 5 6", impl.ErrNone},
		{"", "cut 3 1", impl.ErrNone},
		{"", "changed 3 1 1", impl.ErrNone},
		{"", "refused 3", impl.OK},
		{"3/1b9", "refused 3", impl.OK},
		{"3/1b9", "refused 4", impl.OK},
		{"3/1b9", "fill 3 4 5 6", impl.ErrNone},
		{"3/1b9", "fill 4 3 5 6", impl.ErrNone},
		{"3/1b9", "fill 4 5 5 6", impl.ErrNone},
		{"3/1b9", "cut 4 1", impl.ErrNone},
		{"3/1b9", "cut 3 1", impl.OK},
		{"3/1b9", "changed 4 1 1", impl.ErrNone},
		{"3/1b9", "changed 2 1 1", impl.ErrNone},
		{"3/1b9", "changed 3 1 1", impl.OK},
		{"3/1b9 4/2s9", "fill 3 4 5 6", impl.OK},
		{"3/1b9 4/2s9", "fill 4 3 5 6", impl.OK},
		{"3/1b9 4/1b9", "fill 4 3 5 6", impl.OK},
		{"3/1b9 4/2s9", "fill 4 5 5 6", impl.ErrNone},
		// One that is not there is told ahead of the other one's sums.
		{"3/1b9 4/2s9", "fill 3 5 5 10", impl.ErrNone},
		{"3/1b9 4/2s9", "fill 5 3 5 10", impl.ErrNone},
		{"3/1b9:9 4/2s9", "fill 3 2 1 1", impl.ErrNone},
	})
}

func TestLedgerDoUpToTheAmount(t *testing.T) {
	ledgerCases(t, []struct {
		ledger string
		told   string
		code   int64
	}{
		{"3/1b9 4/2s20", "fill 3 4 5 9", impl.OK},
		{"3/1b9 4/2s20", "fill 3 4 5 10", impl.ErrRange},
		{"3/1b9 4/2s20", "fill 4 3 5 9", impl.OK},
		{"3/1b9 4/2s20", "fill 4 3 5 10", impl.ErrRange},
		{"3/1b9:2-3 4/2s20", "fill 4 3 5 4", impl.OK},
		{"3/1b9:2-3 4/2s20", "fill 4 3 5 5", impl.ErrRange},
		{"3/1b9:2-3 4/2s20", "fill 3 4 5 5", impl.ErrRange},
		{"3/1b9:9 4/2s20", "fill 3 4 1 1", impl.ErrRange},
		{"3/1b9-9 4/2s20", "fill 4 3 1 1", impl.ErrRange},
		{"3/1b0 4/2s20", "fill 4 3 1 1", impl.ErrRange},
		{"3/1b9", "cut 3 9", impl.OK},
		{"3/1b9", "cut 3 10", impl.ErrRange},
		{"3/1b9:2-3", "cut 3 4", impl.OK},
		{"3/1b9:2-3", "cut 3 5", impl.ErrRange},
		{"3/1b9:9", "cut 3 1", impl.ErrRange},
		{"3/1b9 4/2s20", "fill 3 4 5 5; fill 3 4 5 4", impl.OK},
		{"3/1b9 4/2s20", "fill 3 4 5 5; fill 3 4 5 4; cut 4 11", impl.OK},
		{"3/1b9 4/2s20", "fill 3 4 5 5; fill 3 4 5 4; cut 4 12", impl.ErrRange},
		{"3/1b9 4/2s20", "fill 3 4 5 5; fill 3 4 5 5", impl.ErrRange},
		// It is looked at behind each Event, not behind all of them.
		{"3/1b9 4/2s20", "fill 3 4 5 10; changed 3 5 10", impl.ErrRange},
		{"3/1b9 4/2s20", "changed 3 5 10; fill 3 4 5 10", impl.OK},
		{"3/1b9", "cut 3 10; changed 3 5 10", impl.ErrRange},
		{"3/1b9:2-3@1", "changed 3 7 1", impl.OK},
		{"3/1b9:2-3@1", "changed 3 7 1; cut 3 1", impl.OK},
		{"3/1b9:2-3@1", "changed 3 7 1; cut 3 2", impl.ErrRange},
		{"3/1b9:2-3@1", "changed 3 7 1000; cut 3 1000", impl.OK},
		{"3/1b9:9@1", "changed 3 7 1; cut 3 1", impl.OK},
	})
}

func TestLedgerDoAtTheLimitsOfAnEntry(t *testing.T) {
	ledgerCases(t, []struct {
		ledger string
		told   string
		code   int64
	}{
		{"3/1b1000000:999000", "changed 3 1 1000", impl.OK},
		{"3/1b1000000:999001", "changed 3 1 1000", impl.ErrRange},
		{"3/1b1000000:999001", "changed 3 1 999", impl.OK},
		{"3/1b1000000-999000", "changed 3 1 1000", impl.OK},
		{"3/1b1000000-999001", "changed 3 1 1000", impl.ErrRange},
		{"3/1b1000000:500000-499999", "changed 3 1 1", impl.OK},
		{"3/1b1000000:500000-499999", "changed 3 1 2", impl.ErrRange},
		{"3/1b1000000:500000-500000", "changed 3 1 1", impl.ErrRange},
		{"3/1b1000000:1000000", "changed 3 1 1", impl.ErrRange},
		{"3/1b1000000", "changed 3 1 1", impl.OK},
		{"3/1b1000000:999000 4/1s1000000", "fill 3 4 10000 1000", impl.OK},
		{"3/1b1000000:999001 4/1s1000000", "fill 3 4 10000 1000", impl.ErrRange},
		{"3/1b1000000:999000@9990000000 4/1s1000", "fill 3 4 10000 1000", impl.OK},
		{"3/1b1000000:999000@9990000000 4/1s1000", "fill 4 3 10000 1000", impl.OK},
		{"3/1b1000000-999000", "cut 3 1000", impl.OK},
		{"3/1b1000000-999001", "cut 3 1000", impl.ErrRange},
		{"3/1b1000000:1-999000", "cut 3 1000", impl.ErrRange},
	})
}

// Of several faulty Events the first one's code is told, whichever they are, and whatever goes well ahead of it and between.
func TestLedgerDoTellsTheFirstCode(t *testing.T) {
	l := ledgerOf("3/1b9:1@5 4/2s9:1@5")
	faults := map[string]int64{
		"taken 3": impl.ErrThere, "taken 5": impl.ErrForm, "fill 3 5 1 1": impl.ErrNone, "fill 5 3 1 1": impl.ErrNone, "cut 5 1": impl.ErrNone, "changed 5 1 1": impl.ErrNone,
		"fill 3 4 1 9": impl.ErrRange, "cut 4 9": impl.ErrRange,
	}
	wells := []string{"", "refused 7; ", "cut 3 1; ", "fill 3 4 2 1; changed 4 5 8; "}
	for first, code := range faults {
		for second := range faults {
			for _, well := range wells {
				for _, between := range wells {
					told := well + first + "; " + between + second
					ledgerCode(t, told, l, cancelOf(3), eventsOf(told), code)
				}
			}
		}
	}
	full := fullLedger(60)
	for _, first := range []string{"taken 5", "taken 10", "cut 5 1", "cut 10 1000"} {
		for _, second := range []string{"taken 5", "taken 10", "cut 5 1", "cut 10 1000"} {
			code := map[string]int64{"taken 5": impl.ErrFull, "taken 10": impl.ErrThere, "cut 5 1": impl.ErrNone, "cut 10 1000": impl.ErrRange}[first]
			ledgerCode(t, "full: "+first+"; "+second, full, cancelOf(3), eventsOf(first+"; "+second), code)
			ledgerCode(t, "full, of a limit: "+first+"; "+second, full, limitOf(true, impl.LfDay), eventsOf(first+"; "+second), code)
		}
	}
}

func TestLedgerDoOfWhatIsNotRight(t *testing.T) {
	l, right := ledgerOf(someLedgerText), limitOf(true, impl.LfStay)
	well, fault := eventsOf("taken 5; cut 5 1"), eventsOf("taken 5; taken 5; cut 6 1; cut 3 9")
	for what, wrong := range wrongLedgers() {
		for _, events := range [][]impl.Event{nil, well, fault, {{}}} {
			ledgerCode(t, what, wrong, right, events, impl.ErrForm)
			ledgerCode(t, what+", nor the command", wrong, impl.Cmd{}, events, impl.ErrForm)
		}
	}
	for what, wrong := range wrongCmds() {
		for _, events := range [][]impl.Event{nil, well, fault, {{}}} {
			ledgerCode(t, what, l, wrong, events, impl.ErrForm)
			ledgerCode(t, what+", nor the ledger", fullLedger(61), wrong, events, impl.ErrForm)
		}
	}
	for what, wrong := range wrongEvents() {
		for _, c := range []impl.Cmd{right, rollOf(), {}} {
			ledgerCode(t, what, l, c, []impl.Event{wrong}, impl.ErrForm)
			// Whatever is not right is told ahead of what could not be done, wherever it stands.
			for at := range len(fault) + 1 {
				ledgerCode(t, fmt.Sprint(what, ", at ", at), l, c, slices.Insert(slices.Clone(fault), at, wrong), impl.ErrForm)
			}
			ledgerCode(t, what+", the last one", l, c, append(slices.Clone(well), wrong), impl.ErrForm)
			ledgerCode(t, what+", of a full one", fullLedger(60), c, append(slices.Clone(well), wrong), impl.ErrForm)
			ledgerCode(t, what+", nor the ledger", fullLedger(61), c, []impl.Event{wrong}, impl.ErrForm)
		}
	}
}

func TestLedgerDoOfNothingTold(t *testing.T) {
	for what, l := range rightLedgers() {
		for _, c := range baseCmds() {
			for _, events := range [][]impl.Event{nil, {}} {
				ledgerCode(t, what+": "+textOfCmd(c), l, c, events, impl.OK)
				alike(t, what+": "+textOfCmd(c), impl.LedgerDo(l, c, events), impl.LedgerOut{Ledger: l})
			}
		}
	}
}

func TestLedgerDoOfLongLists(t *testing.T) {
	l := ledgerOf("3/1b1000 4/2s1000")
	fills := slices.Repeat(eventsOf("fill 3 4 7 1"), 400)
	c := marketOf(true)
	ledgerCode(t, "MaxList Events", l, c, fills, impl.OK)
	same(t, "MaxList Events: what was filled", impl.EntryOf(impl.LedgerDo(l, c, fills).Ledger, 3), impl.Entry{Id: 3, Owner: 1, Buy: true, Amount: 1000, Filled: 400, Paid: 2800})
	for what, more := range map[string]impl.Event{"right": fills[0], "not right": {}, "faulty": takenOf(3)} {
		ledgerCode(t, "one more than MaxList, "+what, l, c, append(slices.Clone(fills), more), impl.ErrSize)
	}
	for what, one := range map[string][]impl.Entry{"a right ledger": l, "none": nil, "one that is not right": fullLedger(61), "MaxList entries": fullLedger(400), "more than MaxList": fullLedger(401)} {
		for _, d := range []impl.Cmd{c, rollOf(), {}, {Kind: 9}} {
			for _, events := range [][]impl.Event{make([]impl.Event, 401), slices.Repeat(fills, 3), slices.Repeat(eventsOf("taken 3"), 401)} {
				ledgerCode(t, "more than MaxList, of "+what, one, d, events, impl.ErrSize)
			}
		}
	}
	for _, d := range []impl.Cmd{c, rollOf(), {}, {Kind: 9}} {
		for _, events := range [][]impl.Event{nil, fills, {{}}, eventsOf("taken 10")} {
			ledgerCode(t, "MaxList entries", fullLedger(400), d, events, impl.ErrForm)
			ledgerCode(t, "one more than MaxList entries", fullLedger(401), d, events, impl.ErrSize)
			ledgerCode(t, "one more than MaxList zero ones", make([]impl.Entry, 401), d, events, impl.ErrSize)
			ledgerCode(t, "far more entries", make([]impl.Entry, 100000), d, events, impl.ErrSize)
		}
	}
	ledgerCode(t, "MaxList Events that are not right", l, c, make([]impl.Event, 400), impl.ErrForm)
}

// inPieces hands no more than MaxList Events to one call, as one command may tell more of them.
func inPieces(t *testing.T, what string, l []impl.Entry, c impl.Cmd, events []impl.Event) []impl.Entry {
	t.Helper()
	for {
		many := min(len(events), impl.MaxList)
		out := doesLedger(t, what, l, c, events[:many])
		same(t, what+": its code", out.Code, impl.OK)
		l, events = out.Ledger, events[many:]
		if len(events) == 0 {
			return l
		}
	}
}

// ledgerOfBook: promise 18, for one book and the ledger of all that was done to it.
func ledgerOfBook(t *testing.T, what string, l []impl.Entry, b impl.New) {
	t.Helper()
	if !impl.Even(l) {
		t.Errorf("%s: it is not even: %+v", what, l)
	}
	if !impl.LedgerRight(l) {
		t.Errorf("%s: it is not right: %+v", what, l)
	}
	for id := int64(0); id <= b.Next+1; id++ {
		o := impl.NewFind(b, id)
		if left := impl.LeftOf(l, id); left != o.Amount+o.Hidden {
			t.Errorf("%s: left of %d: got %d, of %+v", what, id, left, o)
		}
		if e := impl.EntryOf(l, id); o.Id != 0 && e.Owner != o.Owner || id > 0 && id < b.Next != (e.Id == id) {
			t.Errorf("%s: the entry of %+v: %+v", what, o, e)
		}
	}
}

// Promise 18, over rows of commands of every Kind, Life, Post, Peak and Guard.
func TestLedgerOfANewerBook(t *testing.T) {
	seen := map[string]int{}
	for seed := range int64(300) {
		random := rand.New(rand.NewSource(seed))
		b, l := impl.NewNew(), []impl.Entry(nil)
		spread, most := random.Int63n(12)+1, random.Int63n(60)+1
		if seed%5 == 4 {
			most = impl.MaxAmount
		}
		for n := range impl.MaxEntries {
			c := someNewCmd(random, b, spread, most)
			what := fmt.Sprintf("seed %d, %d: %s", seed, n, textOfCmd(c))
			done := impl.NewDo(b, c)
			l = inPieces(t, what, l, c, done.Events)
			if done.Code == impl.OK {
				b = done.New
				seen[fmt.Sprint("Kind ", c.Kind)]++
				seen[fmt.Sprint("Life ", c.Life)]++
				seen[fmt.Sprint("Post ", c.Post, ", Peak ", c.Peak > 0, ", Guard ", c.Guard)]++
			}
			for _, e := range done.Events {
				seen[fmt.Sprint("Event ", e.Kind)]++
			}
			ledgerOfBook(t, what, l, b)
		}
	}
	same(t, fmt.Sprintf("was there all of it in %v", seen), len(seen), 5+4+8+4)
}

// Promise 18, where a row of orders alone fills the ledger to its last entry.
func TestLedgerOfANewerBookFilledUp(t *testing.T) {
	b, l := impl.NewNew(), []impl.Entry(nil)
	for n := range impl.MaxEntries {
		c := cmdOf([]string{"limit 1 sell 100 9 stay peak 2", "limit 2 buy 100 7 stay guard", "market 3 buy 5"}[n%3])
		done := impl.NewDo(b, c)
		same(t, "the book's code", done.Code, impl.OK)
		b, l = done.New, inPieces(t, fmt.Sprint(n), l, c, done.Events)
		ledgerOfBook(t, fmt.Sprint(n), l, b)
	}
	same(t, "as many as may be", len(l), impl.MaxEntries)
	c := cmdOf("market 3 buy 5")
	ledgerCode(t, "one more", l, c, impl.NewDo(b, c).Events, impl.ErrFull)
}

// A peak that shows anew again and again tells more Events than one list may have.
func TestLedgerOfMoreEventsThanMaxList(t *testing.T) {
	b, l := impl.NewNew(), []impl.Entry(nil)
	for _, text := range []string{"limit 1 sell 100 1000 stay peak 1", "limit 2 sell 100 1000 day peak 3", "limit 3 buy 100 1000 stay", "market 4 buy 1000", "roll"} {
		c := cmdOf(text)
		done := impl.NewDo(b, c)
		if len(done.Events) > impl.MaxList {
			ledgerCode(t, text+": all in one list", l, c, done.Events, impl.ErrSize)
		}
		b, l = done.New, inPieces(t, text, l, c, done.Events)
		ledgerOfBook(t, text, l, b)
	}
	same(t, "the seller's position", impl.PositionOf(l, 1), positionByRule(l, 1))
	same(t, "all was sold", impl.PositionOf(l, 1).Sold+impl.PositionOf(l, 2).Sold, 2000)
}

func TestPositionOf(t *testing.T) {
	l := ledgerOf("1/1b9:2@20 2/1s9:3@33 3/2b9:4@44 4/1b9:5-1@55 5/1s9:1-8@7 6/9s9:9@90000 7/9b9-9 8/2b9")
	want := map[int64]impl.Position{
		1: {Bought: 7, Sold: 4, Paid: 75, Got: 40}, 2: {Bought: 4, Paid: 44}, 9: {Sold: 9, Got: 90000},
	}
	for owner := int64(-3); owner <= 12; owner++ {
		same(t, fmt.Sprint("the Owner ", owner), impl.PositionOf(l, owner), want[owner])
	}
	for _, owner := range strangeNumbers() {
		same(t, fmt.Sprint("the Owner ", owner), impl.PositionOf(l, owner), impl.Position{})
		same(t, "of an empty one", impl.PositionOf(nil, owner), impl.Position{})
	}
	var most []impl.Entry
	for i := range int64(60) {
		most = append(most, impl.Entry{Id: i + 1, Owner: 4, Buy: i < 59, Amount: 1000000, Filled: 1000000, Paid: 10000000000})
	}
	same(t, "as much as may be", impl.PositionOf(most, 4), impl.Position{Bought: 59000000, Sold: 1000000, Paid: 590000000000, Got: 10000000000})
	same(t, "as much as may be: is it even?", impl.Even(most), false)
}

func TestEven(t *testing.T) {
	for text, want := range map[string]bool{
		"":                                true,
		"1/1b9":                           true,
		"1/1b9-9 2/1s4":                   true,
		"1/1b9:3@12 2/2s9:3@12":           true,
		"1/1b9:3@12 2/1s9:3@12":           true,
		"1/1b9:3@12 2/2s9:3@13":           false,
		"1/1b9:3@13 2/2s9:3@12":           false,
		"1/1b9:4@12 2/2s9:3@12":           false,
		"1/1b9:3@12 2/2s9:4@12":           false,
		"1/1b9:1 2/2s9":                   false,
		"1/1b9 2/2s9:1":                   false,
		"1/1b9:1@1 2/2s9:1":               false,
		"1/1b9:3@12 2/2b9:3@12":           false,
		"1/1s9:3@12 2/2s9:3@12":           false,
		"1/1b9:5@20 2/2s9:3@12 3/3s9:2@8": true,
		"1/1b9:5@20 2/2s9:3@8 3/3s9:2@12": true,
		"1/1b9:5@20 2/2s9:3@12 3/3s9:2@9": false,
		"1/1b9:5@20 2/2s9:3@12 3/3s9:1@8": false,
		"1/1b9:5@20 2/2s9:5@12 3/3b9:5@8": false,
		"1/1b8:3@4 2/2s8:4@3":             false,
		"1/9b8:3@4 2/9s8:4@3 3/9b1:1@0 4/8s8:3@1 5/7b3:3@0": true,
	} {
		same(t, text, impl.Even(ledgerOf(text)), want)
		same(t, text+": the rule", evenByRule(ledgerOf(text)), want)
		turned := ledgerOf(text)
		for i := range turned {
			turned[i].Buy = !turned[i].Buy
		}
		same(t, text+", the sides turned round", impl.Even(turned), want)
	}
}

func TestLedgerCallsWriteNothingBehindAList(t *testing.T) {
	laid := func() ([]impl.Entry, []impl.Event) {
		return ledgerOf(someLedgerText + " 99/9b99 100/9s99"), eventsOf("taken 5; fill 5 3 7 1; changed 9 3 4; cut 5 1; taken 77; taken 78")
	}
	wholeLedger, wholeEvents := laid()
	l, events := wholeLedger[:5], wholeEvents[:4]
	for _, c := range append(baseCmds(), impl.Cmd{}) {
		for range 2 {
			out := impl.LedgerDo(l, c, events)
			fresh(t, textOfCmd(c), out, wholeLedger, wholeEvents)
			for i := range out.Ledger {
				out.Ledger[i] = impl.Entry{}
			}
		}
	}
	impl.LedgerRight(l)
	impl.EntryOf(l, 7)
	impl.LeftOf(l, 7)
	impl.PositionOf(l, 1)
	impl.Even(l)
	ledgerNow, eventsNow := laid()
	same(t, "what stands behind the entries", slices.Equal(wholeLedger, ledgerNow), true)
	same(t, "what stands behind the events", slices.Equal(wholeEvents, eventsNow), true)
}

func TestLedgerDoKeepsNothing(t *testing.T) {
	l, c, events := ledgerOf(someLedgerText), limitOf(true, impl.LfStay), eventsOf("taken 5; fill 5 3 7 1; cut 9 2")
	first := copyOf(impl.LedgerDo(l, c, events))
	same(t, "its code", first.Code, impl.OK)
	for range 3 {
		impl.LedgerDo(first.Ledger, c, events)
		impl.LedgerDo(l, c, eventsOf("taken 6; cut 9 900"))
		impl.LedgerDo(nil, c, events)
		impl.LedgerDo(fullLedger(60), c, events)
		alike(t, "once more", impl.LedgerDo(l, c, events), first)
	}
}
