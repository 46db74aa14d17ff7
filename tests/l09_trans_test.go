package tests

import (
	"fmt"
	"math"
	"math/rand"
	"slices"
	"strings"
	"testing"

	"loop.example/g00446/impl"
)

// comesOver: promise 13 of a right older book, and that nothing that was handed in is changed or shared.
func comesOver(t *testing.T, what string, b impl.Old) {
	t.Helper()
	before := copyOf(b)
	up := impl.Up(b)
	alike(t, what+": over", up, newFromOld(b))
	alike(t, what+": handed in", b, before)
	fresh(t, what+": over", up, b)
	same(t, what+": is it right?", impl.NewRight(up), true)
	same(t, what+": alike", impl.Alike(b, up), true)
	same(t, what+": what is new in it", impl.FirstNew(up), 0)
	wasUp := copyNew(up)
	down := impl.Down(up)
	alike(t, what+": back", down, impl.DownOut{Old: b})
	alike(t, what+": handed in to come back", up, wasUp)
	fresh(t, what+": back", down, up, b)
	alike(t, what+": over once more", impl.Up(down.Old), wasUp)
}

func TestOldGoesOverAndComesBack(t *testing.T) {
	for what, b := range rightOlds() {
		comesOver(t, what, b)
		comesOver(t, what+", the sides turned round", mirroredOld(b))
	}
	for bids := range impl.MaxRest + 1 {
		for _, asks := range []int{0, 1, (impl.MaxRest - bids) / 2, impl.MaxRest - bids} {
			if bids+asks <= impl.MaxRest {
				comesOver(t, fmt.Sprintf("%d bids, %d asks", bids, asks), fullOld(bids, asks))
			}
		}
	}
}

func TestUpWrittenOut(t *testing.T) {
	order := func(id int64, owner int64, price int64, amount int64, day bool) impl.Order {
		return impl.Order{Id: id, Owner: owner, Price: price, Amount: amount, Day: day}
	}
	old := impl.Old{
		Bids: []impl.Order{order(3, 1, 100, 5, false), order(1, 2, 100, 7, true), order(6, 2, 99, 1, false)},
		Asks: []impl.Order{order(5, 3, 102, 4, true), order(2, 1, 103, 6, false), order(4, 4, 103, 9, false)},
		Next: 9,
	}
	b := impl.New{
		Bids: []impl.Level{{Price: 100, Orders: []impl.Order{order(3, 1, 100, 5, false), order(1, 2, 100, 7, true)}}, {Price: 99, Orders: []impl.Order{order(6, 2, 99, 1, false)}}},
		Asks: []impl.Level{{Price: 102, Orders: []impl.Order{order(5, 3, 102, 4, true)}}, {Price: 103, Orders: []impl.Order{order(2, 1, 103, 6, false), order(4, 4, 103, 9, false)}}},
		Next: 9,
	}
	alike(t, "over", impl.Up(old), b)
	alike(t, "back", impl.Down(b), impl.DownOut{Old: old})
	same(t, "alike", impl.Alike(old, b), true)
	alike(t, "a new one, over", impl.Up(impl.OldNew()), impl.NewNew())
	alike(t, "a new one, back", impl.Down(impl.NewNew()), impl.DownOut{Old: impl.OldNew()})
	same(t, "new ones", impl.Alike(impl.OldNew(), impl.NewNew()), true)
}

// Promise 13 of all prices that three orders of a side may have, so that levels end at each place.
func TestOldGoesOverOfEachOrderOfPrices(t *testing.T) {
	for n := range int64(27) {
		l := ordersOf("2/1:1x1 1/2:1x2d 3/1:1x3")
		l[0].Price, l[1].Price, l[2].Price = n%3+5, n/3%3+5, n/9+5
		for _, b := range []impl.Old{{Bids: l, Next: 4}, {Asks: l, Next: 4}} {
			if impl.OldRight(b) {
				comesOver(t, textOfOld(b), b)
			} else {
				alike(t, textOfOld(b), impl.Up(b), impl.New{})
			}
		}
	}
}

// newThings each make an order that an older book may have one that only a newer one has.
func newThings() map[string]func(o *impl.Order) {
	return map[string]func(o *impl.Order){
		"a Peak that shows all":  func(o *impl.Order) { o.Peak = o.Amount },
		"a Peak that is greater": func(o *impl.Order) { o.Peak = impl.MaxAmount },
		"a Peak and some Hidden": func(o *impl.Order) { o.Peak, o.Hidden = o.Amount, 3 },
		"a Guard":                func(o *impl.Order) { o.Guard = true },
		"a Guard and a Peak":     func(o *impl.Order) { o.Guard, o.Peak = true, o.Amount },
	}
}

// placesOf are the orders of a book, of Bids, then of Asks.
func placesOf(b impl.New) []*impl.Order {
	var out []*impl.Order
	for _, side := range [][]impl.Level{b.Bids, b.Asks} {
		for _, level := range side {
			for at := range level.Orders {
				out = append(out, &level.Orders[at])
			}
		}
	}
	return out
}

// staysUp: it does not go down, and that is the Id that is told.
func staysUp(t *testing.T, what string, b impl.New, id int64) {
	t.Helper()
	before := copyNew(b)
	same(t, what+": is it right?", impl.NewRight(b), true)
	same(t, what+": what is new in it", impl.FirstNew(b), id)
	alike(t, what+": down", impl.Down(b), impl.DownOut{Id: id, Code: impl.ErrNew})
	alike(t, what+": handed in", b, before)
	plain := impl.Old{Bids: plainOrders(b.Bids), Asks: plainOrders(b.Asks), Next: b.Next}
	same(t, what+": an older one without", impl.OldRight(plain), true)
	same(t, what+": alike to one without", impl.Alike(plain, b), false)
	same(t, what+": alike to one with", impl.Alike(impl.Old{Bids: restingIn(b.Bids), Asks: restingIn(b.Asks), Next: b.Next}, b), false)
}

func plainOrders(l []impl.Level) []impl.Order {
	var out []impl.Order
	for _, o := range restingIn(l) {
		o.Peak, o.Hidden, o.Guard = 0, 0, false
		out = append(out, o)
	}
	return out
}

func somePlaces() map[string]impl.Old {
	level := fullOld(12, 12)
	for at := range 12 {
		level.Bids[at].Price, level.Asks[at].Price = 500-int64(at/5), 600+int64(at/7)
		level.Bids[at].Id, level.Asks[at].Id = 25-level.Bids[at].Id, 25-level.Asks[at].Id
	}
	return map[string]impl.Old{
		"some": oldOf(someOldText), "full": fullOld(12, 12), "full, in levels": level, "bids alone": oldOf("9/1:5x5 2/1:5x5 4/1:5x5 | | 10"), "asks alone": oldOf("| 9/1:5x5 2/1:5x5 4/1:6x5 | 10"),
		"one bid": oldOf("1/1:5x5 | | 2"), "one ask": oldOf("| 1/1:5x5 | 2"),
	}
}

// Promise 13: what is new at any one place keeps a book up, and of two such places the first one is told.
func TestNewerBookStaysUp(t *testing.T) {
	for what, old := range somePlaces() {
		for first := range placesOf(newFromOld(old)) {
			for thing, turn := range newThings() {
				b := newFromOld(old)
				turn(placesOf(b)[first])
				staysUp(t, fmt.Sprintf("%s: %s at %d", what, thing, first), b, placesOf(b)[first].Id)
			}
			for second := first + 1; second < len(placesOf(newFromOld(old))); second++ {
				b := newFromOld(old)
				things := []func(o *impl.Order){newThings()["a Guard"], newThings()["a Peak that shows all"]}
				things[(first+second)%2](placesOf(b)[first])
				things[first%2](placesOf(b)[second])
				staysUp(t, fmt.Sprintf("%s: something new at %d and %d", what, first, second), b, placesOf(b)[first].Id)
			}
		}
		b := newFromOld(old)
		for _, o := range placesOf(b) {
			o.Guard = true
		}
		staysUp(t, what+": all are new", b, placesOf(b)[0].Id)
	}
}

// downByRule is what the document says of a right newer book.
func downByRule(b impl.New) impl.DownOut {
	at := slices.IndexFunc(allOf(b), func(o impl.Order) bool { return o.Peak > 0 || o.Guard })
	if at >= 0 {
		return impl.DownOut{Id: allOf(b)[at].Id, Code: impl.ErrNew}
	}
	return impl.DownOut{Old: impl.Old{Bids: restingIn(b.Bids), Asks: restingIn(b.Asks), Next: b.Next}}
}

func TestDownOfRightNews(t *testing.T) {
	for what, b := range rightNews() {
		for _, b := range []impl.New{b, mirroredNew(b)} {
			want := downByRule(b)
			if want.Code == impl.OK {
				comesOver(t, what, want.Old)
			} else {
				staysUp(t, what, b, want.Id)
			}
			alike(t, what, impl.Down(b), want)
			fresh(t, what, impl.Down(b), b)
		}
	}
}

// Promise 13 of books as commands leave them: whatever was new in one goes down with it.
func TestDownInLongRuns(t *testing.T) {
	told := map[int64]int{}
	for seed := range int64(30) {
		random := rand.New(rand.NewSource(seed))
		b := impl.NewNew()
		for range 200 {
			c := someNewCmd(random, b, 9, 40)
			if random.Intn(4) > 0 {
				c.Post, c.Peak, c.Guard = false, 0, false
			}
			if out := impl.NewDo(b, c); out.Code == impl.OK {
				b = out.New
			}
			got, want := impl.Down(b), downByRule(b)
			if got.Code != want.Code || got.Id != want.Id || !sameOrders(got.Old, want.Old) {
				alike(t, textOfNew(b), got, want)
			}
			same(t, textOfNew(b), impl.FirstNew(b), want.Id)
			if got.Code == impl.OK && (!impl.Alike(got.Old, b) || !sameNew(impl.Up(got.Old), b)) {
				t.Errorf("%s: it is not alike to what it is when it is down: %s", textOfNew(b), textOfOld(got.Old))
			}
			if len(allOf(b)) > 2 {
				told[got.Code]++
			}
		}
	}
	if told[impl.OK] < 100 || told[impl.ErrNew] < 100 {
		t.Errorf("runs of little worth: %v", told)
	}
	b := newOf("1/1:5x5 | 2/1:7x5 3/1:8x2+3p2 | 4")
	staysUp(t, "with a Peak", b, 3)
	alike(t, "when that has gone", impl.Down(impl.NewDo(b, cmdOf("cancel 1 3")).New), impl.DownOut{Old: oldOf("1/1:5x5 | 2/1:7x5 | 4")})
}

func TestUpOfABookThatIsNotRight(t *testing.T) {
	for what, b := range wrongOlds() {
		before := copyOf(b)
		alike(t, what, impl.Up(b), impl.New{})
		same(t, what+": alike to the same orders", impl.Alike(b, newFromOld(b)), false)
		same(t, what+": alike to the zero one", impl.Alike(b, impl.New{}), false)
		same(t, what+": alike to what Up tells", impl.Alike(b, impl.Up(b)), false)
		same(t, what+": alike to a new one", impl.Alike(b, impl.NewNew()), false)
		alike(t, what+": handed in", b, before)
	}
	same(t, "the zero ones", impl.Alike(impl.Old{}, impl.New{}), false)
}

// guarded has a Guard on each order, which no fault may tell of.
func guarded(b impl.New) impl.New {
	out := copyNew(b)
	for _, o := range placesOf(out) {
		o.Guard = true
	}
	return out
}

func TestDownOfABookThatIsNotRight(t *testing.T) {
	olds := rightOlds()
	for what, b := range wrongNews() {
		before := copyNew(b)
		for _, b := range []impl.New{b, guarded(b)} {
			alike(t, what, impl.Down(b), impl.DownOut{Code: impl.ErrForm})
			same(t, what, impl.FirstNew(b), 0)
			for other, old := range olds {
				same(t, what+": alike to "+other, impl.Alike(old, b), false)
			}
			same(t, what+": alike to its own orders", impl.Alike(impl.Old{Bids: restingIn(b.Bids), Asks: restingIn(b.Asks), Next: b.Next}, b), false)
		}
		if !sameNew(b, before) {
			t.Errorf("%s: it is changed then", what)
		}
	}
	same(t, "the zero one", impl.Down(impl.New{}).Code, impl.ErrForm)
	same(t, "the zero one", impl.FirstNew(impl.New{}), 0)
	// A list that all levels share is far more than can be gone through one by one.
	far := impl.New{Next: 9}
	level := impl.Level{Price: 5, Orders: make([]impl.Order, 100000)}
	for range 100000 {
		far.Bids, far.Asks = append(far.Bids, level), append(far.Asks, level)
	}
	alike(t, "far more", impl.Down(far), impl.DownOut{Code: impl.ErrForm})
	same(t, "far more", impl.FirstNew(far), 0)
	same(t, "far more", impl.Alike(oldOf(someOldText), far), false)
	same(t, "far more", impl.ShimDo(far, "roll").Code, impl.ErrForm)
}

func TestAlikeOfEachWithEach(t *testing.T) {
	for what, a := range rightOlds() {
		for other, b := range rightOlds() {
			same(t, what+" and "+other, impl.Alike(a, newFromOld(b)), textOfOld(a) == textOfOld(b))
		}
	}
	a := oldOf("| | 5")
	for what, b := range map[string]impl.New{"none": {Next: 5}, "empty lists": {Bids: []impl.Level{}, Asks: []impl.Level{}, Next: 5}, "one of both": {Asks: make([]impl.Level, 0, 9), Next: 5}} {
		same(t, what, impl.Alike(a, b), true)
		same(t, what, impl.Alike(impl.Old{Bids: []impl.Order{}, Next: 5}, b), true)
		alike(t, what, impl.Down(b), impl.DownOut{Old: a})
	}
}

// otherNumbers are not n.
func otherNumbers(n int64) []int64 {
	return slices.DeleteFunc([]int64{n - 1, n + 1, -n, 0, 1, 2, 100, 1000, math.MinInt64, math.MaxInt64}, func(other int64) bool { return other == n })
}

// turnedOrders: an order, each time with one cell that is another.
func turnedOrders(o impl.Order) map[string]impl.Order {
	out := map[string]impl.Order{}
	day, guard := o, o
	day.Day, guard.Guard = !o.Day, !o.Guard
	out["Day"], out["Guard"] = day, guard
	cells := map[string]func(o *impl.Order) *int64{
		"Id": func(o *impl.Order) *int64 { return &o.Id }, "Owner": func(o *impl.Order) *int64 { return &o.Owner }, "Price": func(o *impl.Order) *int64 { return &o.Price },
		"Amount": func(o *impl.Order) *int64 { return &o.Amount }, "Peak": func(o *impl.Order) *int64 { return &o.Peak }, "Hidden": func(o *impl.Order) *int64 { return &o.Hidden },
	}
	for what, cell := range cells {
		for _, n := range otherNumbers(*cell(&o)) {
			turned := o
			*cell(&turned) = n
			out[fmt.Sprint(what, " ", n)] = turned
		}
	}
	return out
}

func TestAlikeOfOneCellThatDiffers(t *testing.T) {
	for _, old := range []impl.Old{oldOf(someOldText), oldOf("2/1:5x1 1/1:5x1 | 3/1:6x1 4/1:6x1 | 9"), oldOf("1/1:5x1 | | 2"), oldOf("| 1/1:5x1d | 2"), fullOld(12, 12)} {
		up := newFromOld(old)
		same(t, textOfOld(old), impl.Alike(old, up), true)
		for _, next := range otherNumbers(old.Next) {
			same(t, fmt.Sprint("Next ", next), impl.Alike(impl.Old{Bids: old.Bids, Asks: old.Asks, Next: next}, up), false)
			same(t, fmt.Sprint("Next ", next), impl.Alike(old, impl.New{Bids: up.Bids, Asks: up.Asks, Next: next}), false)
		}
		for at, place := range placesOf(up) {
			for what, turned := range turnedOrders(*place) {
				b := newFromOld(old)
				*placesOf(b)[at] = turned
				same(t, fmt.Sprintf("%s: newer: %d: %s", textOfOld(old), at, what), impl.Alike(old, b), false)
				a := copyOf(old)
				if at < len(a.Bids) {
					a.Bids[at] = turned
				} else {
					a.Asks[at-len(a.Bids)] = turned
				}
				same(t, fmt.Sprintf("%s: older: %d: %s", textOfOld(old), at, what), impl.Alike(a, up), false)
			}
		}
		for _, side := range [][]impl.Level{up.Bids, up.Asks} {
			for at := range side {
				was := side[at].Price
				for _, price := range otherNumbers(was) {
					side[at].Price = price
					same(t, fmt.Sprintf("%s: level %d at %d", textOfOld(old), at, price), impl.Alike(old, up), false)
				}
				side[at].Price = was
			}
		}
		same(t, textOfOld(old)+": turned back", impl.Alike(old, up), true)
	}
}

// The same orders, but not laid as Up lays them; and one less, or one more.
func TestAlikeOfOrdersLaidElse(t *testing.T) {
	old := oldOf("3/1:5x1 1/1:5x2 4/1:4x1 | 2/1:7x1 5/1:8x1 6/1:8x2 | 9")
	level := func(price int64, text string) impl.Level {
		return impl.Level{Price: price, Orders: ordersOf(text)}
	}
	bids, asks := []impl.Level{level(5, "3/1:5x1 1/1:5x2"), level(4, "4/1:4x1")}, []impl.Level{level(7, "2/1:7x1"), level(8, "5/1:8x1 6/1:8x2")}
	same(t, "as Up lays them", impl.Alike(old, impl.New{Bids: bids, Asks: asks, Next: 9}), true)
	for what, others := range map[string][]impl.Level{
		"none":                     nil,
		"split":                    {level(5, "3/1:5x1"), level(5, "1/1:5x2"), level(4, "4/1:4x1")},
		"an empty level first":     {level(6, ""), level(5, "3/1:5x1 1/1:5x2"), level(4, "4/1:4x1")},
		"an empty level between":   {level(5, "3/1:5x1 1/1:5x2"), level(5, ""), level(4, "4/1:4x1")},
		"an empty level last":      {level(5, "3/1:5x1 1/1:5x2"), level(4, "4/1:4x1"), level(3, "")},
		"the zero level last":      {level(5, "3/1:5x1 1/1:5x2"), level(4, "4/1:4x1"), {}},
		"in one level":             {level(5, "3/1:5x1 1/1:5x2 4/1:4x1")},
		"within a level turned":    {level(5, "1/1:5x2 3/1:5x1"), level(4, "4/1:4x1")},
		"levels turned":            {level(4, "4/1:4x1"), level(5, "3/1:5x1 1/1:5x2")},
		"the last level left out":  {level(5, "3/1:5x1 1/1:5x2")},
		"the first level left out": {level(4, "4/1:4x1")},
		"the last order left out":  {level(5, "3/1:5x1"), level(4, "4/1:4x1")},
		"the first left out":       {level(5, "1/1:5x2"), level(4, "4/1:4x1")},
		"one order twice":          {level(5, "3/1:5x1 1/1:5x2 1/1:5x2"), level(4, "4/1:4x1")},
		"one order more":           {level(5, "3/1:5x1 1/1:5x2 7/1:5x2"), level(4, "4/1:4x1")},
		"one level more":           {level(5, "3/1:5x1 1/1:5x2"), level(4, "4/1:4x1"), level(3, "7/1:3x1")},
		"the asks":                 asks,
	} {
		same(t, what, impl.Alike(old, impl.New{Bids: others, Asks: asks, Next: 9}), false)
		mirrored := mirroredNew(impl.New{Bids: others, Asks: asks, Next: 9})
		same(t, what+", turned round", impl.Alike(mirroredOld(old), mirrored), false)
	}
	same(t, "sides exchanged", impl.Alike(old, impl.New{Bids: asks, Asks: bids, Next: 9}), false)
}

// refusal is what a client is told that is refused with that code.
func refusal(code int64) string {
	return fmt.Sprintf("refused %d\n", code)
}

// codeByRule is what CmdReadOld tells by the document's words.
func codeByRule(read impl.CmdOut) int64 {
	if c := read.Cmd; c.Post || c.Peak > 0 || c.Guard {
		return impl.ErrNew
	}
	return read.Code
}

// textByRules is the text of events, of which none is left if they are too many, or too long.
func textByRules(l []impl.Event) string {
	if text := textOfEvents(l); len(l) <= 400 && len(text) <= 8000 {
		return text
	}
	return ""
}

// answerByRule is what the document says of a text of at most MaxBytes bytes, of a book that is right.
func answerByRule(asItIs impl.New, text string, do func(c impl.Cmd) impl.NewOut) impl.ShimOut {
	read := readByRule(text)
	code := codeByRule(read)
	if code == impl.OK {
		out := do(read.Cmd)
		if out.Code == impl.OK {
			return impl.ShimOut{New: out.New, Text: textByRules(out.Events)}
		}
		code = out.Code
	}
	return impl.ShimOut{New: asItIs, Text: refusal(code)}
}

func shimByRule(b impl.New, text string) impl.ShimOut {
	return answerByRule(b, text, func(c impl.Cmd) impl.NewOut { return newByRule(b, c) })
}

func saidByRule(b impl.Old, text string) impl.ShimOut {
	return answerByRule(newFromOld(b), text, func(c impl.Cmd) impl.NewOut {
		out := oldByRule(b, c)
		return impl.NewOut{New: newFromOld(out.Old), Events: out.Events, Code: out.Code}
	})
}

func sameShim(a, b impl.ShimOut) bool {
	return a.Text == b.Text && a.Code == b.Code && sameNew(a.New, b.New)
}

// shimTells holds what ShimDo tells of a right book against the rule.
func shimTells(t *testing.T, b impl.New, text string) impl.ShimOut {
	t.Helper()
	what := fmt.Sprintf("%s: %.80q", textOfNew(b), text)
	given := made(text)
	before := copyNew(b)
	got := impl.ShimDo(b, given)
	if want := shimByRule(before, text); !sameShim(got, want) {
		alike(t, what, got, want)
	}
	fresh(t, what, got, b, given)
	if !sameNew(b, before) || given != text {
		t.Errorf("%s: what was handed in is changed", what)
	}
	if !impl.NewRight(got.New) {
		t.Errorf("%s: not right then: %s", what, textOfNew(got.New))
	}
	return got
}

// toldAlike: promise 14 of one text, on a right older book and on what Up tells of it.
func toldAlike(t *testing.T, b impl.Old, text string) impl.ShimOut {
	t.Helper()
	what := fmt.Sprintf("%s: %.80q", textOfOld(b), text)
	given := made(text)
	before := copyOf(b)
	said := impl.OldSay(b, given)
	if want := saidByRule(before, text); !sameShim(said, want) {
		alike(t, what, said, want)
	}
	fresh(t, what, said, b, given)
	if !sameOrders(b, before) || given != text {
		t.Errorf("%s: what was handed in is changed", what)
	}
	if shim := shimTells(t, impl.Up(b), text); !sameShim(shim, said) {
		alike(t, what+": on both", shim, said)
	}
	return said
}

// tellsText: also of which text, written out.
func tellsText(t *testing.T, book string, text string, told string, after string) {
	t.Helper()
	want := impl.ShimOut{New: newFromOld(oldOf(after)), Text: told}
	alike(t, fmt.Sprintf("%s: %q", book, text), toldAlike(t, oldOf(book), text), want)
}

func TestOldClientsAreTold(t *testing.T) {
	tellsText(t, "| | 1", "limit 1 sell 100 5 day", "taken 1\n", "| 1/1:100x5d | 2")
	tellsText(t, "| | 1", "limit 1 buy 100 5 now", "taken 1\ncut 1 5\n", "| | 2")
	tellsText(t, "| | 1", "limit 1 buy 100 5 all", "taken 1\ncut 1 5\n", "| | 2")
	tellsText(t, "| | 1", "market 1 buy 5", "taken 1\ncut 1 5\n", "| | 2")
	tellsText(t, someOldText, "limit 9 buy 103 12 stay", "taken 7\nfill 7 5 102 4\nfill 7 2 103 6\nfill 7 4 103 2\n", "3/1:100x5 1/2:100x7d 6/2:99x1 | 4/4:103x7 | 8")
	tellsText(t, someOldText, "limit 9 sell 100 20 stay", "taken 7\nfill 7 3 100 5\nfill 7 1 100 7\n", "6/2:99x1 | 7/9:100x8 5/3:102x4d 2/1:103x6 4/4:103x9 | 8")
	tellsText(t, someOldText, "limit 9 buy 100 2 day", "taken 7\n", "3/1:100x5 1/2:100x7d 7/9:100x2d 6/2:99x1 | 5/3:102x4d 2/1:103x6 4/4:103x9 | 8")
	tellsText(t, someOldText, "market 9 sell 14", "taken 7\nfill 7 3 100 5\nfill 7 1 100 7\nfill 7 6 99 1\ncut 7 1\n", "| 5/3:102x4d 2/1:103x6 4/4:103x9 | 8")
	tellsText(t, someOldText, "cancel 2 1", "cut 1 7\n", "3/1:100x5 6/2:99x1 | 5/3:102x4d 2/1:103x6 4/4:103x9 | 7")
	tellsText(t, someOldText, "replace 2 1 100 3", "changed 1 100 3\n", "3/1:100x5 1/2:100x3d 6/2:99x1 | 5/3:102x4d 2/1:103x6 4/4:103x9 | 7")
	tellsText(t, someOldText, "replace 2 1 102 9", "changed 1 102 9\nfill 1 5 102 4\n", "1/2:102x5d 3/1:100x5 6/2:99x1 | 2/1:103x6 4/4:103x9 | 7")
	tellsText(t, someOldText, "roll", "cut 1 7\ncut 5 4\n", "3/1:100x5 6/2:99x1 | 2/1:103x6 4/4:103x9 | 7")
	// an order may meet one of its own Owner on both
	tellsText(t, "| 1/1:100x5 | 2", "limit 1 buy 100 6 stay", "taken 2\nfill 2 1 100 5\n", "2/1:100x1 | | 3")
}

// What changes nothing is told all the same, or there is nothing to tell.
func TestOldClientsAreToldWhatChangesNothing(t *testing.T) {
	tellsText(t, "1/1:100x5 | | 2", "replace 1 1 100 5", "changed 1 100 5\n", "1/1:100x5 | | 2")
	tellsText(t, "| 1/1:100x5d 2/1:101x5 | 3", "replace 1 1 100 5", "changed 1 100 5\n", "| 1/1:100x5d 2/1:101x5 | 3")
	tellsText(t, someOldText, "replace 2 6 99 1", "changed 6 99 1\n", someOldText)
	tellsText(t, "| | 1", "roll", "", "| | 1")
	tellsText(t, "1/1:100x5 | 2/1:101x5 | 3", "roll", "", "1/1:100x5 | 2/1:101x5 | 3")
	tellsText(t, "1/1:100x5 | | 1000000", "roll", "", "1/1:100x5 | | 1000000")
}

// Each code that there may be, on both: the book is as it is, and there is no Code.
func TestOldClientsAreRefused(t *testing.T) {
	full, last := textOfOld(fullOld(12, 12)), "1/1:100x5 | 2/1:101x5d | 1000000"
	for _, book := range []string{"| | 1", someOldText, full, last} {
		for _, text := range []string{"", " ", "x", "roll ", " roll", "roll\n", "ROLL", "limit", "limit 1 buy 100 5", "limit 1 buy 100 5 stay ", "limit 0 buy 100 5 stay", "market 1 buy 1001", "cancel 1 0", "cancel 01 1",
			"replace 1 1 100", "limit 1 buy 100 5 stay peak 6", "limit 1 buy 100 5 now post", "limit 1 buy 100 5 all peak 1", "limit 1 buy 100 5 stay guard post", "taken 1", "refused 3", "\x00", "\xff\xfe"} {
			tellsText(t, book, text, "refused 3\n", book)
		}
		for _, c := range newCmds() {
			tellsText(t, book, textOfCmd(c), "refused 12\n", book)
		}
		for _, text := range []string{"cancel 9 1", "cancel 1 999", "cancel 1 1000000", "replace 9 1 100 5", "replace 1 999 100 5", "replace 9 2 1 1"} {
			tellsText(t, book, text, "refused 6\n", book)
		}
	}
	for text, rests := range takers() {
		tellsText(t, last, text, "refused 9\n", last)
		if rests {
			tellsText(t, full, text, "refused 9\n", full)
		} else if told := toldAlike(t, fullOld(12, 12), text).Text; !strings.HasPrefix(told, "taken 25\n") {
			t.Errorf("full: %s: got %q", text, told)
		}
	}
	// A newer command is refused as such, also where an older one would be refused else.
	tellsText(t, full, "limit 1 buy 550 5 stay post", "refused 12\n", full)
	tellsText(t, last, "limit 1 sell 1 5 stay post", "refused 12\n", last)
}

// A book with a text is as it is when it is refused, also if only a newer one may be so.
func TestShimDoLeavesANewerBookAsItIs(t *testing.T) {
	for what, b := range rightNews() {
		for text, code := range map[string]int64{"x": impl.ErrSyntax, "": impl.ErrSyntax, "limit 1 buy 1 1 stay guard": impl.ErrNew, "limit 1 sell 1 1 day post": impl.ErrNew, "limit 1 buy 9 9 stay peak 1": impl.ErrNew, "cancel 9 999": impl.ErrNone, "replace 9 999 1 1": impl.ErrNone} {
			got := shimTells(t, b, text)
			alike(t, what+": "+text, got, impl.ShimOut{New: b, Text: refusal(code)})
		}
		if len(allOf(b)) == impl.MaxRest {
			alike(t, what+": full", shimTells(t, b, "limit 1 buy 1 1 stay"), impl.ShimOut{New: b, Text: refusal(impl.ErrFull)})
		}
		b.Next = impl.MaxTime
		alike(t, what+": the last Next", shimTells(t, b, "market 1 buy 1"), impl.ShimOut{New: b, Text: refusal(impl.ErrFull)})
	}
}

// What is new in a book does as it does there, whoever asks.
func TestShimDoOfWhatIsNew(t *testing.T) {
	tells := func(book string, text string, told string, after string) {
		t.Helper()
		alike(t, book+": "+text, shimTells(t, newOf(book), text), impl.ShimOut{New: newOf(after), Text: told})
	}
	tells("| 1/1:100x4+5p4 2/2:100x3 | 3", "market 3 buy 8", "taken 3\nfill 3 1 100 4\nfill 3 2 100 3\nfill 3 1 100 1\n", "| 1/1:100x3+1p4 | 4")
	tells("| 1/1:100x4+5p4g | 2", "cancel 1 1", "cut 1 9\n", "| | 2")
	tells("| 1/1:100x4+5p4g | 2", "replace 1 1 100 6", "changed 1 100 6\n", "| 1/1:100x4+2p4g | 2")
	tells("1/1:90x4 | 2/1:100x4+5p4g | 3", "replace 1 2 90 6", "changed 2 90 6\ncut 2 6\n", "1/1:90x4 | | 3")
	tells("1/1:90x4+1p4d | 2/1:100x4g | 3", "roll", "cut 1 5\n", "| 2/1:100x4g | 3")
	tells("| 1/1:100x4g | 2", "limit 1 buy 100 5 stay", "taken 2\nfill 2 1 100 4\n", "2/1:100x1 | | 3")
}

// Events of more than MaxList, or of more than MaxBytes bytes, have no text; the book goes on all the same.
func TestShimDoOfMoreThanCanBeTold(t *testing.T) {
	alone := newOf("| 1/1:100x1+999p1 | 2")
	most := shimTells(t, alone, "market 2 buy 399")
	same(t, "of MaxList events", strings.Count(most.Text, "\n"), 400)
	alike(t, "of one more", shimTells(t, alone, "market 2 buy 400"), impl.ShimOut{New: newOf("| 1/1:100x1+599p1 | 3")})
	alike(t, "of very many", shimTells(t, alone, "market 2 buy 1000"), impl.ShimOut{New: newOf("| | 3")})
	wide := newOf("| 999998/1:10000x1+999p1 | 999999")
	same(t, "of nearly MaxBytes", len(shimTells(t, wide, "market 2 buy 295").Text), 13+295*27)
	alike(t, "of more than MaxBytes", shimTells(t, wide, "market 2 buy 296"), impl.ShimOut{New: newOf("| 999998/1:10000x1+703p1 | 1000000")})
}

// shimFault: that code alone is told.
func shimFault(t *testing.T, what string, got impl.ShimOut, code int64) {
	t.Helper()
	alike(t, what, got, impl.ShimOut{Code: code})
}

func TestOldClientsOfABookThatIsNotRight(t *testing.T) {
	texts := []string{"", "x", "roll", "cancel 9 99", "limit 1 buy 1 1 stay guard", "limit 1 buy 1 1 stay", "market 1 sell 5", "replace 1 1 5 5", long(impl.MaxBytes)}
	for what, b := range wrongOlds() {
		before := copyOf(b)
		for _, text := range texts {
			shimFault(t, what+": "+text, impl.OldSay(b, text), impl.ErrForm)
		}
		shimFault(t, what+": too long", impl.OldSay(b, tooLong()), impl.ErrSize)
		if !sameOrders(b, before) {
			t.Errorf("%s: it is changed then", what)
		}
	}
	for what, b := range wrongNews() {
		before := copyNew(b)
		for _, text := range texts {
			shimFault(t, what+": "+text, impl.ShimDo(b, text), impl.ErrForm)
		}
		shimFault(t, what+": too long", impl.ShimDo(b, tooLong()), impl.ErrSize)
		if !sameNew(b, before) {
			t.Errorf("%s: it is changed then", what)
		}
	}
	shimFault(t, "the zero one", impl.ShimDo(impl.New{}, "roll"), impl.ErrForm)
	shimFault(t, "the zero one", impl.OldSay(impl.Old{}, "roll"), impl.ErrForm)
}

func TestOldClientsOfLongTexts(t *testing.T) {
	for what, b := range rightOlds() {
		for _, size := range []int{impl.MaxBytes - 1, impl.MaxBytes} {
			for _, text := range []string{long(size), strings.Repeat(" ", size), "roll" + strings.Repeat(" ", size-4), "cancel 1 " + strings.Repeat("9", size-9), strings.Repeat("\n", size)} {
				same(t, "bytes", len(text), size)
				got := toldAlike(t, b, text)
				alike(t, fmt.Sprint(what, ": ", size), got, impl.ShimOut{New: newFromOld(b), Text: "refused 3\n"})
			}
		}
		for _, size := range []int{impl.MaxBytes + 1, impl.MaxBytes + 2, 3 * impl.MaxBytes, 1 << 20} {
			for _, text := range []string{long(size), strings.Repeat(" ", size), "roll" + strings.Repeat(" ", size-4)} {
				shimFault(t, fmt.Sprint(what, ": ", size), impl.OldSay(b, text), impl.ErrSize)
				shimFault(t, fmt.Sprint(what, ": ", size), impl.ShimDo(newFromOld(b), text), impl.ErrSize)
			}
		}
	}
}

// someSaying is what an old client says: mostly a command, also a new one, one of no order that there is, and what is none.
func someSaying(random *rand.Rand, b impl.Old, spread int64, most int64) string {
	c := someOldCmd(random, b, spread, most)
	switch random.Intn(16) {
	case 0:
		text := textOfCmd(c)
		at := random.Intn(len(text))
		return text[:at] + string([]byte{" 0x\n"[random.Intn(4)]}) + text[at+random.Intn(2):]
	case 1:
		return textOfCmd(newCmds()[random.Intn(len(newCmds()))])
	case 2:
		c.Owner, c.Id = 9, c.Id*2
		if c.Kind == impl.CmRoll {
			return "roll"
		}
	}
	return textOfCmd(c)
}

// Promise 14, step by step: each book goes on from what it told itself.
func TestOldClientsAreToldTheSameInLongRuns(t *testing.T) {
	for seed := range int64(24) {
		random := rand.New(rand.NewSource(seed))
		b := impl.OldNew()
		if seed%4 == 2 {
			b = fullOld(int(seed), impl.MaxRest-int(seed))
		}
		if seed%4 == 3 {
			b.Next = impl.MaxTime - 100
		}
		spread, most := random.Int63n(15)+1, random.Int63n(40)+1
		seen := map[string]int{}
		n := impl.Up(b)
		for range 300 {
			text := someSaying(random, b, spread, most)
			said := toldAlike(t, b, text)
			shim := impl.ShimDo(n, text)
			if !sameShim(shim, said) {
				alike(t, textOfNew(n)+": "+text, shim, said)
			}
			if out := impl.OldDo(b, readByRule(text).Cmd); out.Code == impl.OK && codeByRule(readByRule(text)) == impl.OK {
				b = out.Old
			}
			n = shim.New
			if !impl.Alike(b, n) || !sameOrders(impl.Down(n).Old, b) {
				t.Fatalf("%q: not the same then: %s and %s", text, textOfOld(b), textOfNew(n))
			}
			if told, refused := strings.CutPrefix(said.Text, "refused "); refused {
				seen[told]++
			} else {
				seen["told"]++
			}
		}
		if seen["told"] < 20 || seen["3\n"] == 0 || seen["12\n"] == 0 || seen["6\n"] == 0 || seed%4 == 3 && seen["9\n"] == 0 {
			t.Errorf("a run of little worth: %v", seen)
		}
	}
}

// A newer book with what is new in it, to which old and new clients say something by turns.
func TestShimDoInLongRuns(t *testing.T) {
	for seed := range int64(12) {
		random := rand.New(rand.NewSource(seed))
		b := impl.NewNew()
		refused := 0
		for range 300 {
			if random.Intn(2) == 0 {
				if out := impl.NewDo(b, someNewCmd(random, b, 9, 40)); out.Code == impl.OK {
					b = out.New
				}
				continue
			}
			out := shimTells(t, b, someSaying(random, impl.Old{Bids: restingIn(b.Bids), Asks: restingIn(b.Asks), Next: b.Next}, 9, 40))
			if strings.HasPrefix(out.Text, "refused") {
				refused++
				if !sameNew(out.New, b) {
					t.Errorf("%s: refused, but it is %s then", textOfNew(b), textOfNew(out.New))
				}
			}
			b = out.New
		}
		if refused < 10 || refused > 100 {
			t.Errorf("a run of little worth: %d were refused", refused)
		}
	}
}

// Promise 14 of all small books and all small commands.
func TestOldClientsAreToldTheSameInTheSmall(t *testing.T) {
	cmds := smallCmds()
	var texts []string
	for _, c := range cmds {
		texts = append(texts, textOfCmd(c))
	}
	for _, bids := range smallSides(true) {
		for _, asks := range smallSides(false) {
			b := impl.Old{Bids: copyOf(bids), Asks: copyOf(asks), Next: 9}
			for i := range b.Asks {
				b.Asks[i].Id += 4
			}
			up := impl.Up(b)
			if !impl.OldRight(b) {
				alike(t, textOfOld(b), up, impl.New{})
				continue
			}
			same(t, textOfOld(b), impl.Alike(b, up), true)
			for at, c := range cmds {
				want := impl.ShimOut{New: up, Text: refusal(impl.ErrNone)}
				if out := oldByRule(b, c); out.Code == impl.OK {
					want = impl.ShimOut{New: newFromOld(out.Old), Text: textOfEvents(out.Events)}
				}
				said, shim := impl.OldSay(b, texts[at]), impl.ShimDo(up, texts[at])
				if !sameShim(said, want) || !sameShim(shim, want) {
					alike(t, textOfOld(b)+": "+texts[at], said, want)
					alike(t, textOfNew(up)+": "+texts[at], shim, want)
				}
			}
		}
	}
}

// Each command that there may be, right for an old client or not, in words.
func TestOldClientsMaySayAnything(t *testing.T) {
	b := oldOf(someOldText)
	for _, c := range rightCmds() {
		toldAlike(t, b, textOfCmd(c))
	}
	for _, c := range wrongCmds() {
		toldAlike(t, b, textOfCmd(c))
	}
	random := rand.New(rand.NewSource(14))
	for range 3000 {
		bytes := make([]byte, random.Intn(30))
		for at := range bytes {
			bytes[at] = byte(random.Intn(256))
		}
		toldAlike(t, b, string(bytes))
	}
}

// sharedOrders are both sides of a book, cut from one list with room behind it.
func sharedOrders(text string) ([]impl.Order, []impl.Order, []impl.Order) {
	whole := append(make([]impl.Order, 0, 20), restingOf(text)...)
	return whole[:20], whole[:3], whole[3:6]
}

const sharedPlain = "3/1:100x5 1/2:100x7d 6/2:99x1 5/3:102x4d 2/1:103x6 4/4:103x9"

// Lists with room behind them, and both sides cut from one list: nothing is written there, and nothing of it is told.
func TestUpLeavesWhatStandsBehindAList(t *testing.T) {
	whole, bids, asks := sharedOrders(sharedPlain)
	b := impl.Old{Bids: bids, Asks: asks, Next: 7}
	before := copyOf(whole)
	up := impl.Up(b)
	alike(t, "over", up, newFromOld(oldOf(someOldText)))
	fresh(t, "over", up, b)
	same(t, "alike", impl.Alike(b, up), true)
	for _, text := range []string{"x", "cancel 9 9", "limit 1 buy 1 1 stay guard", "market 5 buy 7", "limit 5 sell 1 40 day", "replace 1 3 100 9", "cancel 1 3", "limit 5 buy 101 1 stay", "roll"} {
		toldAlike(t, b, text)
	}
	alike(t, "what was handed in", whole, before)
	staysAsTold(t, "over", up, func() { impl.NewDo(up, cmdOf("market 6 buy 9")) })

	empty := make([]impl.Order, 0, 8)
	up = impl.Up(impl.Old{Bids: empty, Asks: empty, Next: 1})
	alike(t, "room alone", up, impl.NewNew())
	_, _ = append(up.Bids, impl.Level{Price: 1}), append(up.Asks, impl.Level{Price: 2})
	alike(t, "room alone: what was handed in", empty[:8], make([]impl.Order, 8))
}

// staysAsTold: what is appended to one of its lists is seen in no other.
func staysAsTold(t *testing.T, what string, b impl.New, call func()) {
	t.Helper()
	before := copyNew(b)
	call()
	for _, side := range [][]impl.Level{b.Bids, b.Asks} {
		_ = append(side, impl.Level{Price: 99})
		for _, level := range side {
			_ = append(level.Orders, impl.Order{Id: 99})
		}
	}
	alike(t, what+": told", b, before)
}

// sharedNew has all its levels' orders cut from one list, and its levels from another.
func sharedNew(text string) (impl.New, func() bool) {
	orders := append(make([]impl.Order, 0, 20), restingOf(text)...)
	levels := append(make([]impl.Level, 0, 9), impl.Level{Price: 100, Orders: orders[:2]}, impl.Level{Price: 99, Orders: orders[2:3]}, impl.Level{Price: 102, Orders: orders[3:4]}, impl.Level{Price: 103, Orders: orders[4:]})
	ordersBefore, levelsBefore := copyOf(orders[:20]), copyOf(levels[:9])
	untouched := func() bool {
		return slices.Equal(orders[:20], ordersBefore) && sameLevels(levels[:9], levelsBefore)
	}
	return impl.New{Bids: levels[:2], Asks: levels[2:], Next: 7}, untouched
}

func TestDownAndShimDoLeaveWhatStandsBehindAList(t *testing.T) {
	b, untouched := sharedNew(sharedPlain)
	down := impl.Down(b)
	alike(t, "down", down, impl.DownOut{Old: oldOf(someOldText)})
	fresh(t, "down", down, b)
	_, _ = append(down.Old.Bids, impl.Order{Id: 99}), append(down.Old.Asks, impl.Order{Id: 98})
	alike(t, "down: told", down, impl.DownOut{Old: oldOf(someOldText)})
	same(t, "alike", impl.Alike(down.Old, b), true)
	same(t, "what is new", impl.FirstNew(b), 0)
	same(t, "untouched", untouched(), true)

	newer := "3/1:100x5+4p6 1/2:100x7d 6/2:99x1p1g 5/3:102x4+9p4d 2/1:103x6g 4/4:103x9"
	for _, text := range []string{"x", "cancel 9 9", "limit 1 buy 1 1 stay guard", "market 5 buy 7", "limit 5 sell 1 40 day", "replace 1 3 100 9", "cancel 1 3", "limit 5 buy 101 1 stay", "roll", "replace 4 4 103 8"} {
		b, untouched := sharedNew(newer)
		out := shimTells(t, b, text)
		same(t, text+": untouched", untouched(), true)
		staysAsTold(t, text, out.New, func() { impl.ShimDo(out.New, "market 6 buy 9") })
		same(t, text+": untouched", untouched(), true)
		// What was told is the caller's own.
		for _, o := range placesOf(out.New) {
			*o = impl.Order{}
		}
		clear(out.New.Bids)
		clear(out.New.Asks)
		same(t, text+": untouched", untouched(), true)
		staysUp(t, text+": what is new", b, 3)
	}
}

// The same tells the same, whatever was told between.
func TestTransKeepsNothing(t *testing.T) {
	old, b := oldOf(someOldText), newOf(someNewText)
	up, said, shim := copyOf(impl.Up(old)), copyOf(impl.OldSay(old, "market 1 buy 9")), copyOf(impl.ShimDo(b, "market 1 buy 9"))
	for what, other := range rightNews() {
		impl.Down(other)
		impl.FirstNew(other)
		impl.ShimDo(other, "roll")
		impl.ShimDo(other, what)
		impl.Alike(old, other)
		impl.OldSay(impl.OldNew(), what)
		alike(t, what+": over", impl.Up(old), up)
		alike(t, what+": older", impl.OldSay(old, "market 1 buy 9"), said)
		alike(t, what+": newer", impl.ShimDo(b, "market 1 buy 9"), shim)
		alike(t, what+": down", impl.Down(b), impl.DownOut{Id: 3, Code: impl.ErrNew})
		same(t, what+": alike", impl.Alike(old, up), true)
	}
}
