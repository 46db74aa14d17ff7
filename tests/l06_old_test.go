package tests

import (
	"cmp"
	"fmt"
	"math"
	"math/rand"
	"slices"
	"strings"
	"testing"

	"loop.example/g00446/impl"
)

// oldOf reads a book as the tests here write it: bids | asks | next, each order as id/owner:price x amount, with a d behind it if it is for the day.
func oldOf(text string) impl.Old {
	parts := strings.Split(text, "|")
	if len(parts) != 3 {
		panic("no book: " + text)
	}
	b := impl.Old{Bids: ordersOf(parts[0]), Asks: ordersOf(parts[1])}
	if _, err := fmt.Sscan(parts[2], &b.Next); err != nil {
		panic("no book: " + text)
	}
	return b
}

func ordersOf(text string) []impl.Order {
	var out []impl.Order
	for _, word := range strings.Fields(text) {
		plain, day := strings.CutSuffix(word, "d")
		o := impl.Order{Day: day}
		if _, err := fmt.Sscanf(plain, "%d/%d:%dx%d", &o.Id, &o.Owner, &o.Price, &o.Amount); err != nil {
			panic("no order: " + word)
		}
		out = append(out, o)
	}
	return out
}

func textOfOld(b impl.Old) string {
	return fmt.Sprintf("%s | %s | %d", textOfOrders(b.Bids), textOfOrders(b.Asks), b.Next)
}

func textOfOrders(l []impl.Order) string {
	var words []string
	for _, o := range l {
		word := fmt.Sprintf("%d/%d:%dx%d", o.Id, o.Owner, o.Price, o.Amount)
		if o.Day {
			word += "d"
		}
		if o.Peak != 0 || o.Hidden != 0 || o.Guard {
			word += fmt.Sprintf("(%d,%d,%v)", o.Peak, o.Hidden, o.Guard)
		}
		words = append(words, word)
	}
	return strings.Join(words, " ")
}

func cmdOf(text string) impl.Cmd {
	out := impl.CmdRead(text)
	if out.Code != impl.OK {
		panic("no command: " + text)
	}
	return out.Cmd
}

// eventsOf reads events with a ; between.
func eventsOf(text string) []impl.Event {
	if text == "" {
		return nil
	}
	out := impl.EventsRead(strings.ReplaceAll(text, "; ", "\n") + "\n")
	if out.Code != impl.OK {
		panic("no events: " + text)
	}
	return out.Events
}

// fullOld has that many orders on each side, all of the Owner 1, each of an Amount of 10; nothing but the count is special in it.
func fullOld(bids int, asks int) impl.Old {
	b := impl.Old{Next: int64(bids+asks) + 1}
	for i := range bids {
		b.Bids = append(b.Bids, impl.Order{Id: int64(i) + 1, Owner: 1, Price: 500 - int64(i), Amount: 10, Day: i%2 == 0})
	}
	for i := range asks {
		b.Asks = append(b.Asks, impl.Order{Id: int64(bids+i) + 1, Owner: 1, Price: 600 + int64(i), Amount: 10, Day: i%2 == 0})
	}
	return b
}

const someOldText = "3/1:100x5 1/2:100x7d 6/2:99x1 | 5/3:102x4d 2/1:103x6 4/4:103x9 | 7"

func rightOlds() map[string]impl.Old {
	out := map[string]impl.Old{
		"MaxRest bids":              fullOld(impl.MaxRest, 0),
		"MaxRest asks":              fullOld(0, impl.MaxRest),
		"MaxRest over both":         fullOld(10, 14),
		"one less than MaxRest":     fullOld(11, 12),
		"empty lists":               {Bids: []impl.Order{}, Asks: []impl.Order{}, Next: 1},
		"none of its Ids are there": {Next: impl.MaxTime},
	}
	for _, text := range []string{
		" | | 1", " | | 2", " | | 999999", " | | 1000000",
		"1/1:100x1 | | 2", "| 1/1:100x1 | 2", "1/9:1x1000 | | 1000000", "999999/1:10000x1 | | 1000000", "| 999999/9:10000x1000d | 1000000", "| 1/1:1x1 | 2",
		"1/1:99x1 | 2/1:100x1 | 3", "1/1:1x1 | 2/1:2x1 | 3", "1/1:9999x1 | 2/1:10000x1 | 3", "1/1:1x1 | 2/1:10000x1 | 3",
		"2/1:5x1 1/1:5x1 3/1:5x1 | | 4", "| 3/1:5x1 1/1:5x1 2/1:5x1 | 4", "1/1:5x1 2/1:4x9 | 3/1:6x1 4/1:7x2 | 5", "2/1:5x1 1/1:4x9 | 4/1:6x1 3/1:7x2 | 50",
		someOldText,
	} {
		out[text] = oldOf(text)
	}
	return out
}

func wrongOlds() map[string]impl.Old {
	out := map[string]impl.Old{
		"the zero one":                   {},
		"one more than MaxRest bids":     fullOld(impl.MaxRest+1, 0),
		"one more than MaxRest asks":     fullOld(0, impl.MaxRest+1),
		"one more than MaxRest in all":   fullOld(10, 15),
		"far more":                       fullOld(450, 0),
		"far more on both":               fullOld(450, 450),
		"one more than MaxRest, 1 bid":   fullOld(1, 24),
		"one more than MaxRest, 1 ask":   fullOld(24, 1),
		"Next is far below":              {Next: math.MinInt64},
		"Next is far above":              {Next: math.MaxInt64},
		"Next is far above, with orders": {Next: math.MaxInt64, Bids: ordersOf("1/1:5x1")},
	}
	for _, text := range []string{
		"| | 0", "| | -1", "| | 1000001", "1/1:5x1 | | 1000001", "| 1/1:5x1 | 1000001", "1/1:5x1 | | 0", "| 1/1:5x1 | 1", "1/1:5x1 | | 1",
		// two of one Id
		"1/1:5x1 1/1:5x1 | | 9", "1/1:5x1 1/2:4x1 | | 9", "| 1/1:5x1 1/1:5x1 | 9", "| 1/1:5x1 2/1:6x1 1/1:7x2 | 9", "1/1:5x1 | 1/1:6x1 | 9", "2/1:5x1 1/1:4x1 | 3/1:6x1 1/1:7x1 | 9",
		"2/1:5x1 1/1:4x1 2/1:3x1 | 3/1:6x1 | 9", "2/1:5x1 | 3/1:6x1 4/1:7x1 2/1:8x1 | 9",
		// out of order
		"1/1:5x1 2/1:6x1 | | 9", "2/1:5x1 1/1:6x1 | | 9", "1/1:6x1 2/1:5x1 3/1:6x1 | | 9", "1/1:6x1 2/1:6x1 3/1:7x1 | | 9",
		"| 1/1:6x1 2/1:5x1 | 9", "| 2/1:6x1 1/1:5x1 | 9", "| 1/1:5x1 2/1:6x1 3/1:5x1 | 9", "| 1/1:6x1 2/1:6x1 3/1:5x1 | 9",
		// crossed
		"1/1:5x1 | 2/1:5x1 | 9", "1/1:6x1 | 2/1:5x1 | 9", "1/1:10000x1 | 2/1:1x1 | 9", "1/1:5x1 3/1:1x1 | 2/1:5x1 4/1:9x1 | 9", "1/1:7x1 3/1:4x1 | 2/1:5x1 4/1:9x1 | 9",
		"1/1:8x1 3/1:7x1 | 2/1:5x1 4/1:6x1 | 9", "1/1:1x1 | 2/1:1x1 | 9", "1/1:10000x1 | 2/1:10000x1 | 9",
	} {
		out[text] = oldOf(text)
	}
	for what, turn := range wrongTurns() {
		for at := range 3 {
			b := oldOf(someOldText)
			turn(&b.Bids[at])
			out[fmt.Sprintf("bid %d: %s", at, what)] = b
			b = oldOf(someOldText)
			turn(&b.Asks[at])
			out[fmt.Sprintf("ask %d: %s", at, what)] = b
		}
	}
	return out
}

// wrongTurns each make any order of someOldText one that may not rest in it.
func wrongTurns() map[string]func(o *impl.Order) {
	out := map[string]func(o *impl.Order){
		"Guard": func(o *impl.Order) { o.Guard = true },
		"Peak and Hidden": func(o *impl.Order) {
			o.Peak, o.Hidden = 1, 1
		},
		"nothing at all": func(o *impl.Order) { *o = impl.Order{} },
	}
	add := func(what string, field func(o *impl.Order) *int64, numbers ...int64) {
		for _, n := range numbers {
			out[fmt.Sprintf("%s %d", what, n)] = func(o *impl.Order) { *field(o) = n }
		}
	}
	add("Id", func(o *impl.Order) *int64 { return &o.Id }, math.MinInt64, -1, 0, 7, 8, impl.MaxTime, math.MaxInt64)
	add("Owner", func(o *impl.Order) *int64 { return &o.Owner }, math.MinInt64, -1, 0, 10, 11, math.MaxInt64)
	add("Price", func(o *impl.Order) *int64 { return &o.Price }, math.MinInt64, -1, 0, 10001, math.MaxInt64)
	add("Amount", func(o *impl.Order) *int64 { return &o.Amount }, math.MinInt64, -1, 0, 1001, math.MaxInt64)
	add("Peak", func(o *impl.Order) *int64 { return &o.Peak }, math.MinInt64, -1, 1, 5, 1000, math.MaxInt64)
	add("Hidden", func(o *impl.Order) *int64 { return &o.Hidden }, math.MinInt64, -1, 1, 5, 1000, math.MaxInt64)
	return out
}

func TestOldRight(t *testing.T) {
	for what, b := range rightOlds() {
		same(t, what, impl.OldRight(b), true)
	}
	for what, b := range wrongOlds() {
		same(t, what, impl.OldRight(b), false)
	}
}

// Written out number by number, so that the limits stand here once more beside those of the lists above.
func TestOldRightAtTheLimits(t *testing.T) {
	numbers := []struct {
		what  string
		least int64
		most  int64
		turn  func(b *impl.Old, o *impl.Order, n int64)
	}{
		{"Id", 1, 6, func(b *impl.Old, o *impl.Order, n int64) { o.Id = n }},
		{"Owner", 1, 9, func(b *impl.Old, o *impl.Order, n int64) { o.Owner = n }},
		{"Price", 1, 10000, func(b *impl.Old, o *impl.Order, n int64) { o.Price = n }},
		{"Amount", 1, 1000, func(b *impl.Old, o *impl.Order, n int64) { o.Amount = n }},
		{"Peak", 0, 0, func(b *impl.Old, o *impl.Order, n int64) { o.Peak = n }},
		{"Hidden", 0, 0, func(b *impl.Old, o *impl.Order, n int64) { o.Hidden = n }},
		{"Next", 4, 1000000, func(b *impl.Old, o *impl.Order, n int64) { b.Next = n }},
	}
	for _, number := range numbers {
		for _, n := range []int64{math.MinInt64, -2, -1, 0, 1, 2, 3, 4, 5, 6, 7, 8, 9, 10, 24, 25, 999, 1000, 1001, 9999, 10000, 10001, 999999, 1000000, 1000001, math.MaxInt64} {
			b, l := impl.Old{Next: 7}, ordersOf("3/2:100x5")
			number.turn(&b, &l[0], n)
			want := n >= number.least && n <= number.most
			same(t, fmt.Sprintf("a bid: %s %d", number.what, n), impl.OldRight(impl.Old{Bids: l, Next: b.Next}), want)
			same(t, fmt.Sprintf("an ask: %s %d", number.what, n), impl.OldRight(impl.Old{Asks: l, Next: b.Next}), want)
		}
	}
	for next := int64(-1); next <= 8; next++ {
		b := oldOf(someOldText)
		b.Next = next
		same(t, fmt.Sprintf("Next %d, the greatest Id 6", next), impl.OldRight(b), next >= 7)
	}
}

func TestOldRightOfBestPrices(t *testing.T) {
	for bid := int64(1); bid <= 12; bid++ {
		for ask := int64(1); ask <= 12; ask++ {
			b := impl.Old{Bids: ordersOf("1/1:7x1 2/1:1x1"), Asks: ordersOf("3/1:7x1 4/1:12x1"), Next: 5}
			b.Bids[0].Price, b.Asks[0].Price = bid, ask
			same(t, textOfOld(b), impl.OldRight(b), bid < ask)
			b.Bids, b.Asks = b.Bids[:1], b.Asks[:1]
			same(t, textOfOld(b), impl.OldRight(b), bid < ask)
			same(t, "bids alone", impl.OldRight(impl.Old{Bids: b.Bids, Next: 5}), true)
			same(t, "asks alone", impl.OldRight(impl.Old{Asks: b.Asks, Next: 5}), true)
		}
	}
}

// All prices of three orders of a side: Bids must fall, Asks rise, and those of one price may stand together.
func TestOldRightOfOrder(t *testing.T) {
	for n := range int64(64) {
		x, y, z := n%4+1, n/4%4+1, n/16+1
		l := ordersOf("2/1:1x1 1/1:1x1 3/1:1x1")
		l[0].Price, l[1].Price, l[2].Price = x, y, z
		same(t, fmt.Sprintf("bids %d %d %d", x, y, z), impl.OldRight(impl.Old{Bids: l, Next: 4}), x >= y && y >= z)
		same(t, fmt.Sprintf("asks %d %d %d", x, y, z), impl.OldRight(impl.Old{Asks: l, Next: 4}), x <= y && y <= z)
	}
}

func TestOldRightOfMany(t *testing.T) {
	for bids := range 27 {
		for asks := range 27 {
			same(t, fmt.Sprintf("%d bids, %d asks", bids, asks), impl.OldRight(fullOld(bids, asks)), bids+asks <= 24)
		}
	}
}

func TestOldNew(t *testing.T) {
	alike(t, "a new one", impl.OldNew(), impl.Old{Next: 1})
	same(t, "is it right?", impl.OldRight(impl.OldNew()), true)
	alike(t, "done to", impl.OldDo(impl.OldNew(), cmdOf("limit 1 buy 5 6 day")), impl.OldOut{Old: oldOf("1/1:5x6d | | 2"), Events: eventsOf("taken 1")})
	alike(t, "once more", impl.OldNew(), impl.Old{Next: 1})
}

// doesOld: is this what the command does, with nothing that was handed in changed or shared?
func doesOld(t *testing.T, b impl.Old, c impl.Cmd, want impl.OldOut) {
	t.Helper()
	what := fmt.Sprintf("%s: %s", textOfOld(b), textOfCmd(c))
	before := copyOf(b)
	got := impl.OldDo(b, c)
	alike(t, what, got, want)
	alike(t, what+": what was handed in", b, before)
	fresh(t, what, got, b)
	if got.Code == impl.OK && !impl.OldRight(got.Old) {
		t.Errorf("%s: it is not right then: %s", what, textOfOld(got.Old))
	}
}

// mirroredOld turns buying and selling, and high and low prices, against each other.
func mirroredOld(b impl.Old) impl.Old {
	return impl.Old{Bids: mirroredOrders(b.Asks), Asks: mirroredOrders(b.Bids), Next: b.Next}
}

func mirroredOrders(l []impl.Order) []impl.Order {
	out := copyOf(l)
	for i := range out {
		out[i].Price = impl.MaxPrice + 1 - out[i].Price
	}
	return out
}

func mirroredCmd(c impl.Cmd) impl.Cmd {
	if c.Kind == impl.CmLimit || c.Kind == impl.CmMarket {
		c.Buy = !c.Buy
	}
	if c.Price != 0 {
		c.Price = impl.MaxPrice + 1 - c.Price
	}
	return c
}

func mirroredEvents(l []impl.Event) []impl.Event {
	out := copyOf(l)
	for i := range out {
		if out[i].Price != 0 {
			out[i].Price = impl.MaxPrice + 1 - out[i].Price
		}
	}
	return out
}

// oldCase: what a command does to a book, all as texts.
type oldCase struct {
	book   string
	cmd    string
	events string
	after  string
}

// doesBothWays looks at each case, and at the same with the sides turned round.
func doesBothWays(t *testing.T, cases []oldCase) {
	t.Helper()
	for _, k := range cases {
		b, c := oldOf(k.book), cmdOf(k.cmd)
		want := impl.OldOut{Old: oldOf(k.after), Events: eventsOf(k.events)}
		doesOld(t, b, c, want)
		turned := impl.OldOut{Old: mirroredOld(want.Old), Events: mirroredEvents(want.Events)}
		doesOld(t, mirroredOld(b), mirroredCmd(c), turned)
	}
}

const sells = "| 1/1:100x5 2/2:100x3 3/3:102x4d 4/4:105x9 | 5"

func TestOldDoOfEachLife(t *testing.T) {
	apart := "1/1:90x5 | 2/1:110x5 | 3"
	doesBothWays(t, []oldCase{
		// nothing to meet
		{"| | 1", "limit 1 buy 100 5 stay", "taken 1", "1/1:100x5 | | 2"},
		{"| | 1", "limit 1 buy 100 5 day", "taken 1", "1/1:100x5d | | 2"},
		{"| | 1", "limit 1 buy 100 5 now", "taken 1; cut 1 5", "| | 2"},
		{"| | 1", "limit 1 buy 100 5 all", "taken 1; cut 1 5", "| | 2"},
		{"| | 1", "market 1 buy 5", "taken 1; cut 1 5", "| | 2"},
		{apart, "limit 2 buy 109 7 stay", "taken 3", "3/2:109x7 1/1:90x5 | 2/1:110x5 | 4"},
		{apart, "limit 2 buy 109 7 day", "taken 3", "3/2:109x7d 1/1:90x5 | 2/1:110x5 | 4"},
		{apart, "limit 2 buy 109 7 now", "taken 3; cut 3 7", "1/1:90x5 | 2/1:110x5 | 4"},
		{apart, "limit 2 buy 109 7 all", "taken 3; cut 3 7", "1/1:90x5 | 2/1:110x5 | 4"},
		{"1/1:90x5 | | 2", "market 2 buy 7", "taken 2; cut 2 7", "1/1:90x5 | | 3"},
		// less than is asked for
		{sells, "limit 5 buy 102 20 stay", "taken 5; fill 5 1 100 5; fill 5 2 100 3; fill 5 3 102 4", "5/5:102x8 | 4/4:105x9 | 6"},
		{sells, "limit 5 buy 102 20 day", "taken 5; fill 5 1 100 5; fill 5 2 100 3; fill 5 3 102 4", "5/5:102x8d | 4/4:105x9 | 6"},
		{sells, "limit 5 buy 102 20 now", "taken 5; fill 5 1 100 5; fill 5 2 100 3; fill 5 3 102 4; cut 5 8", "| 4/4:105x9 | 6"},
		{sells, "limit 5 buy 102 20 all", "taken 5; cut 5 20", "| 1/1:100x5 2/2:100x3 3/3:102x4d 4/4:105x9 | 6"},
		{sells, "limit 5 buy 102 13 all", "taken 5; cut 5 13", "| 1/1:100x5 2/2:100x3 3/3:102x4d 4/4:105x9 | 6"},
		{sells, "market 5 buy 22", "taken 5; fill 5 1 100 5; fill 5 2 100 3; fill 5 3 102 4; fill 5 4 105 9; cut 5 1", "| | 6"},
		// just enough
		{sells, "limit 5 buy 102 12 stay", "taken 5; fill 5 1 100 5; fill 5 2 100 3; fill 5 3 102 4", "| 4/4:105x9 | 6"},
		{sells, "limit 5 buy 102 12 day", "taken 5; fill 5 1 100 5; fill 5 2 100 3; fill 5 3 102 4", "| 4/4:105x9 | 6"},
		{sells, "limit 5 buy 102 12 now", "taken 5; fill 5 1 100 5; fill 5 2 100 3; fill 5 3 102 4", "| 4/4:105x9 | 6"},
		{sells, "limit 5 buy 102 12 all", "taken 5; fill 5 1 100 5; fill 5 2 100 3; fill 5 3 102 4", "| 4/4:105x9 | 6"},
		{sells, "market 5 buy 21", "taken 5; fill 5 1 100 5; fill 5 2 100 3; fill 5 3 102 4; fill 5 4 105 9", "| | 6"},
		// more than enough
		{sells, "limit 5 buy 102 6 stay", "taken 5; fill 5 1 100 5; fill 5 2 100 1", "| 2/2:100x2 3/3:102x4d 4/4:105x9 | 6"},
		{sells, "limit 5 buy 102 6 day", "taken 5; fill 5 1 100 5; fill 5 2 100 1", "| 2/2:100x2 3/3:102x4d 4/4:105x9 | 6"},
		{sells, "limit 5 buy 102 6 now", "taken 5; fill 5 1 100 5; fill 5 2 100 1", "| 2/2:100x2 3/3:102x4d 4/4:105x9 | 6"},
		{sells, "limit 5 buy 102 6 all", "taken 5; fill 5 1 100 5; fill 5 2 100 1", "| 2/2:100x2 3/3:102x4d 4/4:105x9 | 6"},
		{sells, "limit 5 buy 102 11 all", "taken 5; fill 5 1 100 5; fill 5 2 100 3; fill 5 3 102 3", "| 3/3:102x1d 4/4:105x9 | 6"},
		{sells, "market 5 buy 13", "taken 5; fill 5 1 100 5; fill 5 2 100 3; fill 5 3 102 4; fill 5 4 105 1", "| 4/4:105x8 | 6"},
	})
}

func TestOldDoMeets(t *testing.T) {
	doesBothWays(t, []oldCase{
		// at its own price, a better one, and not at a worse one
		{sells, "limit 5 buy 99 5 stay", "taken 5", "5/5:99x5 | 1/1:100x5 2/2:100x3 3/3:102x4d 4/4:105x9 | 6"},
		{sells, "limit 5 buy 100 5 stay", "taken 5; fill 5 1 100 5", "| 2/2:100x3 3/3:102x4d 4/4:105x9 | 6"},
		{sells, "limit 5 buy 101 5 stay", "taken 5; fill 5 1 100 5", "| 2/2:100x3 3/3:102x4d 4/4:105x9 | 6"},
		{sells, "limit 5 buy 101 9 stay", "taken 5; fill 5 1 100 5; fill 5 2 100 3", "5/5:101x1 | 3/3:102x4d 4/4:105x9 | 6"},
		{sells, "limit 5 buy 10000 1 now", "taken 5; fill 5 1 100 1", "| 1/1:100x4 2/2:100x3 3/3:102x4d 4/4:105x9 | 6"},
		// one by one, who stood there first
		{sells, "limit 5 buy 100 4 stay", "taken 5; fill 5 1 100 4", "| 1/1:100x1 2/2:100x3 3/3:102x4d 4/4:105x9 | 6"},
		{"| 2/2:100x3 1/1:100x5 | 3", "limit 5 buy 100 4 stay", "taken 3; fill 3 2 100 3; fill 3 1 100 1", "| 1/1:100x4 | 4"},
		{"| 9/2:100x3 1/1:100x5 4/3:100x2 | 20", "market 5 buy 9", "taken 20; fill 20 9 100 3; fill 20 1 100 5; fill 20 4 100 1", "| 4/3:100x1 | 21"},
		// the least and the greatest prices and amounts
		{"| 1/1:1x1000 | 2", "limit 2 buy 1 1000 all", "taken 2; fill 2 1 1 1000", "| | 3"},
		{"| 1/1:10000x1000 | 2", "limit 2 buy 10000 999 stay", "taken 2; fill 2 1 10000 999", "| 1/1:10000x1 | 3"},
		{"| 1/1:10000x1 | 2", "market 2 buy 1000", "taken 2; fill 2 1 10000 1; cut 2 999", "| | 3"},
		{"| 1/1:1x1 | 2", "limit 2 buy 10000 1000 stay", "taken 2; fill 2 1 1 1", "2/2:10000x999 | | 3"},
		{"| 1/1:1x1 2/1:10000x1 | 3", "market 2 buy 2", "taken 3; fill 3 1 1 1; fill 3 2 10000 1", "| | 4"},
		// one Owner may meet itself in an older book
		{"| 1/1:100x5 | 2", "limit 1 buy 100 6 stay", "taken 2; fill 2 1 100 5", "2/1:100x1 | | 3"},
		// what is for the day is met as well, and stays for the day as long as something is left
		{"| 1/1:100x5d | 2", "limit 2 buy 100 3 stay", "taken 2; fill 2 1 100 3", "| 1/1:100x2d | 3"},
		// its own side is not met
		{"1/1:100x5 | | 2", "limit 2 buy 100 3 all", "taken 2; cut 2 3", "1/1:100x5 | | 3"},
		{"1/1:100x5 | | 2", "limit 2 buy 90 3 now", "taken 2; cut 2 3", "1/1:100x5 | | 3"},
		// the last Id that there is
		{"1/1:100x5 | | 999999", "limit 2 sell 100 9 stay", "taken 999999; fill 999999 1 100 5", "| 999999/2:100x4 | 1000000"},
	})
}

func TestOldDoRests(t *testing.T) {
	bids := "4/1:100x5 2/2:100x3 3/3:98x4d 1/4:95x9 | | 5"
	doesBothWays(t, []oldCase{
		{bids, "limit 5 buy 101 1 stay", "taken 5", "5/5:101x1 4/1:100x5 2/2:100x3 3/3:98x4d 1/4:95x9 | | 6"},
		{bids, "limit 5 buy 100 1 stay", "taken 5", "4/1:100x5 2/2:100x3 5/5:100x1 3/3:98x4d 1/4:95x9 | | 6"},
		{bids, "limit 5 buy 99 1 day", "taken 5", "4/1:100x5 2/2:100x3 5/5:99x1d 3/3:98x4d 1/4:95x9 | | 6"},
		{bids, "limit 5 buy 98 1000 stay", "taken 5", "4/1:100x5 2/2:100x3 3/3:98x4d 5/5:98x1000 1/4:95x9 | | 6"},
		{bids, "limit 5 buy 96 1 stay", "taken 5", "4/1:100x5 2/2:100x3 3/3:98x4d 5/5:96x1 1/4:95x9 | | 6"},
		{bids, "limit 5 buy 95 1 stay", "taken 5", "4/1:100x5 2/2:100x3 3/3:98x4d 1/4:95x9 5/5:95x1 | | 6"},
		{bids, "limit 5 buy 94 1 stay", "taken 5", "4/1:100x5 2/2:100x3 3/3:98x4d 1/4:95x9 5/5:94x1 | | 6"},
		{bids, "limit 5 buy 1 1 day", "taken 5", "4/1:100x5 2/2:100x3 3/3:98x4d 1/4:95x9 5/5:1x1d | | 6"},
		{bids, "limit 5 buy 10000 1 stay", "taken 5", "5/5:10000x1 4/1:100x5 2/2:100x3 3/3:98x4d 1/4:95x9 | | 6"},
		// what is left of one that met rests at its own price, as the best of its side
		{"1/1:90x1 | 2/2:95x1 3/3:100x1 | 4", "limit 4 buy 100 5 day", "taken 4; fill 4 2 95 1; fill 4 3 100 1", "4/4:100x3d 1/1:90x1 | | 5"},
	})
}

func TestOldDoCancel(t *testing.T) {
	doesBothWays(t, []oldCase{
		{someOldText, "cancel 1 3", "cut 3 5", "1/2:100x7d 6/2:99x1 | 5/3:102x4d 2/1:103x6 4/4:103x9 | 7"},
		{someOldText, "cancel 2 1", "cut 1 7", "3/1:100x5 6/2:99x1 | 5/3:102x4d 2/1:103x6 4/4:103x9 | 7"},
		{someOldText, "cancel 2 6", "cut 6 1", "3/1:100x5 1/2:100x7d | 5/3:102x4d 2/1:103x6 4/4:103x9 | 7"},
		{someOldText, "cancel 3 5", "cut 5 4", "3/1:100x5 1/2:100x7d 6/2:99x1 | 2/1:103x6 4/4:103x9 | 7"},
		{someOldText, "cancel 1 2", "cut 2 6", "3/1:100x5 1/2:100x7d 6/2:99x1 | 5/3:102x4d 4/4:103x9 | 7"},
		{someOldText, "cancel 4 4", "cut 4 9", "3/1:100x5 1/2:100x7d 6/2:99x1 | 5/3:102x4d 2/1:103x6 | 7"},
		{"1/9:5x1000 | | 2", "cancel 9 1", "cut 1 1000", "| | 2"},
		{"1/9:5x1 | | 1000000", "cancel 9 1", "cut 1 1", "| | 1000000"},
		{"999999/9:5x1 | | 1000000", "cancel 9 999999", "cut 999999 1", "| | 1000000"},
	})
	// What was left, not what was asked for.
	b := impl.OldDo(oldOf("| 1/1:100x10 | 2"), cmdOf("market 2 buy 7")).Old
	doesOld(t, b, cmdOf("cancel 1 1"), impl.OldOut{Old: oldOf("| | 3"), Events: eventsOf("cut 1 3")})
}

func TestOldDoReplace(t *testing.T) {
	three := "1/1:100x5 2/2:100x6 3/3:100x7 4/4:99x8 | 5/5:103x4 6/6:103x2 7/7:104x9 | 8"
	asks := "| 5/5:103x4 6/6:103x2 7/7:104x9 | 8"
	doesBothWays(t, []oldCase{
		// less at its price: it keeps its place
		{three, "replace 1 1 100 4", "changed 1 100 4", "1/1:100x4 2/2:100x6 3/3:100x7 4/4:99x8 | 5/5:103x4 6/6:103x2 7/7:104x9 | 8"},
		{three, "replace 2 2 100 1", "changed 2 100 1", "1/1:100x5 2/2:100x1 3/3:100x7 4/4:99x8 | 5/5:103x4 6/6:103x2 7/7:104x9 | 8"},
		{three, "replace 3 3 100 6", "changed 3 100 6", "1/1:100x5 2/2:100x6 3/3:100x6 4/4:99x8 | 5/5:103x4 6/6:103x2 7/7:104x9 | 8"},
		// as much, or more, at its price: it comes anew
		{three, "replace 1 1 100 5", "changed 1 100 5", "2/2:100x6 3/3:100x7 1/1:100x5 4/4:99x8 | 5/5:103x4 6/6:103x2 7/7:104x9 | 8"},
		{three, "replace 1 1 100 6", "changed 1 100 6", "2/2:100x6 3/3:100x7 1/1:100x6 4/4:99x8 | 5/5:103x4 6/6:103x2 7/7:104x9 | 8"},
		{three, "replace 2 2 100 1000", "changed 2 100 1000", "1/1:100x5 3/3:100x7 2/2:100x1000 4/4:99x8 | 5/5:103x4 6/6:103x2 7/7:104x9 | 8"},
		{three, "replace 3 3 100 7", "changed 3 100 7", "1/1:100x5 2/2:100x6 3/3:100x7 4/4:99x8 | 5/5:103x4 6/6:103x2 7/7:104x9 | 8"},
		// another price, at which it rests, of less, as much and more
		{three, "replace 1 1 99 4", "changed 1 99 4", "2/2:100x6 3/3:100x7 4/4:99x8 1/1:99x4 | 5/5:103x4 6/6:103x2 7/7:104x9 | 8"},
		{three, "replace 2 2 101 6", "changed 2 101 6", "2/2:101x6 1/1:100x5 3/3:100x7 4/4:99x8 | 5/5:103x4 6/6:103x2 7/7:104x9 | 8"},
		{three, "replace 2 2 102 1", "changed 2 102 1", "2/2:102x1 1/1:100x5 3/3:100x7 4/4:99x8 | 5/5:103x4 6/6:103x2 7/7:104x9 | 8"},
		{three, "replace 3 3 98 9", "changed 3 98 9", "1/1:100x5 2/2:100x6 4/4:99x8 3/3:98x9 | 5/5:103x4 6/6:103x2 7/7:104x9 | 8"},
		{three, "replace 4 4 100 8", "changed 4 100 8", "1/1:100x5 2/2:100x6 3/3:100x7 4/4:100x8 | 5/5:103x4 6/6:103x2 7/7:104x9 | 8"},
		// another price, at which it meets
		{three, "replace 1 1 103 3", "changed 1 103 3; fill 1 5 103 3", "2/2:100x6 3/3:100x7 4/4:99x8 | 5/5:103x1 6/6:103x2 7/7:104x9 | 8"},
		{three, "replace 2 2 103 6", "changed 2 103 6; fill 2 5 103 4; fill 2 6 103 2", "1/1:100x5 3/3:100x7 4/4:99x8 | 7/7:104x9 | 8"},
		{three, "replace 3 3 103 8", "changed 3 103 8; fill 3 5 103 4; fill 3 6 103 2", "3/3:103x2 1/1:100x5 2/2:100x6 4/4:99x8 | 7/7:104x9 | 8"},
		{three, "replace 4 4 10000 20", "changed 4 10000 20; fill 4 5 103 4; fill 4 6 103 2; fill 4 7 104 9", "4/4:10000x5 1/1:100x5 2/2:100x6 3/3:100x7 | | 8"},
		{three, "replace 1 1 104 15", "changed 1 104 15; fill 1 5 103 4; fill 1 6 103 2; fill 1 7 104 9", "2/2:100x6 3/3:100x7 4/4:99x8 | | 8"},
		// alone on its side, with less, as much and more; it does not need the next Id
		{asks, "replace 6 6 103 1", "changed 6 103 1", "| 5/5:103x4 6/6:103x1 7/7:104x9 | 8"},
		{"| 5/5:103x4 | 1000000", "replace 5 5 103 4", "changed 5 103 4", "| 5/5:103x4 | 1000000"},
		{"| 5/5:103x4 | 1000000", "replace 5 5 103 5", "changed 5 103 5", "| 5/5:103x5 | 1000000"},
		{"| 5/5:103x4 | 1000000", "replace 5 5 1 1000", "changed 5 1 1000", "| 5/5:1x1000 | 1000000"},
		// one for the day stays for the day, wherever it goes
		{"1/1:100x5d 2/2:100x6 | 3/3:103x4 | 4", "replace 1 1 100 4", "changed 1 100 4", "1/1:100x4d 2/2:100x6 | 3/3:103x4 | 4"},
		{"1/1:100x5d 2/2:100x6 | 3/3:103x4 | 4", "replace 1 1 100 5", "changed 1 100 5", "2/2:100x6 1/1:100x5d | 3/3:103x4 | 4"},
		{"1/1:100x5d 2/2:100x6 | 3/3:103x4 | 4", "replace 1 1 99 5", "changed 1 99 5", "2/2:100x6 1/1:99x5d | 3/3:103x4 | 4"},
		{"1/1:100x5d 2/2:100x6 | 3/3:103x4 | 4", "replace 1 1 103 5", "changed 1 103 5; fill 1 3 103 4", "1/1:103x1d 2/2:100x6 | | 4"},
		// one that stays, among those for the day
		{"1/1:100x5 2/2:100x6d | 3/3:103x4d | 4", "replace 1 1 103 5", "changed 1 103 5; fill 1 3 103 4", "1/1:103x1 2/2:100x6d | | 4"},
		{"1/1:100x5 2/2:100x6d | | 4", "replace 1 1 100 9", "changed 1 100 9", "2/2:100x6d 1/1:100x9 | | 4"},
	})
}

// Less is less than what is left, not less than what was asked for at first.
func TestOldDoReplaceOfWhatIsLeft(t *testing.T) {
	b := impl.OldDo(oldOf("| 1/1:100x10 2/2:100x1 | 3"), cmdOf("market 3 buy 7")).Old
	alike(t, "what is left", b, oldOf("| 1/1:100x3 2/2:100x1 | 4"))
	doesOld(t, b, cmdOf("replace 1 1 100 2"), impl.OldOut{Old: oldOf("| 1/1:100x2 2/2:100x1 | 4"), Events: eventsOf("changed 1 100 2")})
	for amount := int64(3); amount <= 12; amount++ {
		c := impl.Cmd{Kind: impl.CmReplace, Owner: 1, Id: 1, Price: 100, Amount: amount}
		want := oldOf("| 2/2:100x1 1/1:100x3 | 4")
		want.Asks[1].Amount = amount
		doesOld(t, b, c, impl.OldOut{Old: want, Events: []impl.Event{{Kind: impl.EvChanged, Id: 1, Price: 100, Amount: amount}}})
	}
}

func TestOldDoRoll(t *testing.T) {
	for _, k := range []oldCase{
		{"| | 1", "roll", "", "| | 1"},
		{"| | 1000000", "roll", "", "| | 1000000"},
		{"1/1:100x5 2/2:99x6 | 3/3:103x4 | 4", "roll", "", "1/1:100x5 2/2:99x6 | 3/3:103x4 | 4"},
		{someOldText, "roll", "cut 1 7; cut 5 4", "3/1:100x5 6/2:99x1 | 2/1:103x6 4/4:103x9 | 7"},
		{"1/1:100x5d | | 2", "roll", "cut 1 5", "| | 2"},
		{"| 1/1:100x5d | 2", "roll", "cut 1 5", "| | 2"},
		{"4/1:100x5d 3/2:99x6d | 2/3:103x4d 1/4:104x1d | 9", "roll", "cut 4 5; cut 3 6; cut 2 4; cut 1 1", "| | 9"},
		{"9/1:100x5d 2/2:100x6 8/2:100x7d | 5/3:103x4 1/4:103x1d 7/4:103x2 | 1000000", "roll", "cut 9 5; cut 8 7; cut 1 1", "2/2:100x6 | 5/3:103x4 7/4:103x2 | 1000000"},
		{"1/1:100x5d 2/1:99x5 3/1:98x5d 4/1:97x5 | | 5", "roll", "cut 1 5; cut 3 5", "2/1:99x5 4/1:97x5 | | 5"},
	} {
		doesOld(t, oldOf(k.book), cmdOf(k.cmd), impl.OldOut{Old: oldOf(k.after), Events: eventsOf(k.events)})
	}
	full := fullOld(12, 12)
	out := impl.OldDo(full, rollOf())
	same(t, "how many went", len(out.Events), 12)
	same(t, "how many are left", impl.OldCount(out.Old), 12)
	same(t, "its Next", out.Old.Next, full.Next)
}

// newCmds are right, but no old ones.
func newCmds() []impl.Cmd {
	var out []impl.Cmd
	for _, text := range []string{
		"limit 1 buy 100 5 stay post", "limit 1 sell 100 5 day post", "limit 1 buy 100 5 stay peak 1", "limit 1 sell 100 5 day peak 5",
		"limit 1 buy 100 5 stay guard", "limit 1 sell 100 5 now guard", "limit 1 buy 100 5 all guard", "limit 1 buy 100 5 day post peak 2 guard",
	} {
		out = append(out, cmdOf(text))
	}
	return out
}

// refusedOld: is it refused with that code, and nothing told beside it?
func refusedOld(t *testing.T, what string, b impl.Old, c impl.Cmd, code int64) {
	t.Helper()
	before := copyOf(b)
	alike(t, what, impl.OldDo(b, c), impl.OldOut{Code: code})
	alike(t, what+": what was handed in", b, before)
}

func TestOldDoOfABookThatIsNotRight(t *testing.T) {
	for what, b := range wrongOlds() {
		for _, c := range append(baseCmds(), newCmds()...) {
			refusedOld(t, what+": "+textOfCmd(c), b, c, impl.ErrForm)
		}
		refusedOld(t, what+": the zero command", b, impl.Cmd{}, impl.ErrForm)
	}
	// No other fault is told ahead of it.
	full := fullOld(12, 12)
	full.Bids[0].Id, full.Next = full.Bids[1].Id, impl.MaxTime
	for _, text := range []string{"limit 1 buy 1 1 stay", "market 1 buy 1", "cancel 9 99", "replace 9 99 1 1", "limit 1 buy 1 1 stay guard"} {
		refusedOld(t, "full, and not right: "+text, full, cmdOf(text), impl.ErrForm)
	}
}

func TestOldDoOfACommandThatIsNotRight(t *testing.T) {
	books := map[string]impl.Old{"a new one": impl.OldNew(), "some": oldOf(someOldText), "full": fullOld(12, 12), "the last Next": {Next: impl.MaxTime}}
	for what, b := range books {
		for wrong, c := range wrongCmds() {
			refusedOld(t, what+": "+wrong, b, c, impl.ErrForm)
		}
		refusedOld(t, what+": neither right nor old", b, impl.Cmd{Kind: impl.CmLimit, Price: 1, Amount: 1, Guard: true}, impl.ErrForm)
		refusedOld(t, what+": a peak above the amount", b, impl.Cmd{Kind: impl.CmLimit, Owner: 1, Price: 1, Amount: 1, Peak: 2}, impl.ErrForm)
		refusedOld(t, what+": a market with a guard", b, impl.Cmd{Kind: impl.CmMarket, Owner: 1, Amount: 1, Guard: true}, impl.ErrForm)
		refusedOld(t, what+": a cancel with a guard", b, impl.Cmd{Kind: impl.CmCancel, Owner: 1, Id: 99, Guard: true}, impl.ErrForm)
	}
}

func TestOldDoOfANewCommand(t *testing.T) {
	books := map[string]impl.Old{"a new one": impl.OldNew(), "some": oldOf(someOldText), "full": fullOld(12, 12), "the last Next": {Next: impl.MaxTime}}
	for what, b := range books {
		for _, c := range newCmds() {
			refusedOld(t, what+": "+textOfCmd(c), b, c, impl.ErrNew)
		}
	}
	for _, c := range rightCmds() {
		out := impl.OldDo(impl.OldNew(), c)
		same(t, textOfCmd(c), out.Code == impl.ErrNew, c.Post || c.Peak != 0 || c.Guard)
	}
}

// takers are one of each Kind and Life that brings an order, with whether it may rest.
func takers() map[string]bool {
	out := map[string]bool{"market 1 buy 5": false, "market 1 sell 5": false}
	for _, side := range []string{"buy 1", "buy 10000", "sell 1", "sell 10000", "buy 550", "sell 550"} {
		for life, rests := range map[string]bool{"stay": true, "day": true, "now": false, "all": false} {
			out["limit 1 "+side+" 5 "+life] = rests
		}
	}
	return out
}

func TestOldDoOfMaxRest(t *testing.T) {
	for bids := range impl.MaxRest + 1 {
		full, less := fullOld(bids, impl.MaxRest-bids), fullOld(bids, max(impl.MaxRest-1-bids, 0))
		for text, rests := range takers() {
			c := cmdOf(text)
			what := fmt.Sprintf("%d bids: %s", bids, text)
			if rests {
				refusedOld(t, what, full, c, impl.ErrFull)
			} else {
				alike(t, what, impl.OldDo(full, c), oldByRule(full, c))
				same(t, what, impl.OldDo(full, c).Code, impl.OK)
			}
			if impl.OldCount(less) < impl.MaxRest {
				alike(t, what+", one less", impl.OldDo(less, c), oldByRule(less, c))
				same(t, what+", one less", impl.OldDo(less, c).Code, impl.OK)
			}
		}
		// What brings no order needs no room.
		for _, text := range []string{"cancel 1 7", "replace 1 7 550 5", "replace 1 7 1 1000", "replace 1 7 10000 1000", "roll"} {
			same(t, text, impl.OldDo(full, cmdOf(text)).Code, impl.OK)
			alike(t, text, impl.OldDo(full, cmdOf(text)), oldByRule(full, cmdOf(text)))
		}
		same(t, "a replaced one rests", impl.OldCount(impl.OldDo(full, cmdOf("replace 1 7 550 5")).Old), impl.MaxRest)
	}
	// Also where it would go whole by what it meets.
	refusedOld(t, "it would go whole", fullOld(12, 12), cmdOf("limit 1 buy 600 1 stay"), impl.ErrFull)
	refusedOld(t, "it would go whole", fullOld(12, 12), cmdOf("limit 1 sell 500 10 day"), impl.ErrFull)
	refusedOld(t, "it would take one away", fullOld(12, 12), cmdOf("limit 1 sell 499 11 stay"), impl.ErrFull)
}

func TestOldDoOfTheLastNext(t *testing.T) {
	for _, b := range []impl.Old{oldOf("| | 1000000"), oldOf("3/1:100x50 | 999999/1:101x50 | 1000000"), fullOld(12, 12)} {
		b.Next = impl.MaxTime
		for text := range takers() {
			refusedOld(t, text, b, cmdOf(text), impl.ErrFull)
		}
		b.Next = impl.MaxTime - 1
		if len(b.Asks) == 1 {
			b.Asks[0].Id = 5
		}
		for text, rests := range takers() {
			want := int64(impl.OK)
			if rests && impl.OldCount(b) == impl.MaxRest {
				want = impl.ErrFull
			}
			same(t, text, impl.OldDo(b, cmdOf(text)).Code, want)
		}
		out := impl.OldDo(b, cmdOf("market 1 buy 1"))
		same(t, "the last Id", out.Events[0], takenOf(999999))
		same(t, "Next then", out.Old.Next, impl.MaxTime)
	}
	b := oldOf("3/1:100x50 | 5/1:101x50d | 1000000")
	for _, text := range []string{"cancel 1 3", "replace 1 5 100 60", "replace 1 3 100 60", "replace 1 3 99 1", "roll"} {
		out := impl.OldDo(b, cmdOf(text))
		alike(t, text, out, oldByRule(b, cmdOf(text)))
		same(t, text, out.Code, impl.OK)
		same(t, text, out.Old.Next, impl.MaxTime)
	}
}

func TestOldDoOfNoSuchOrder(t *testing.T) {
	b := oldOf(someOldText)
	owners := map[int64]int64{3: 1, 1: 2, 6: 2, 5: 3, 2: 1, 4: 4}
	for _, id := range []int64{1, 2, 3, 4, 5, 6, 7, 8, 100, 999999, impl.MaxTime} {
		for owner := int64(1); owner <= 9; owner++ {
			want := int64(impl.ErrNone)
			if owners[id] == owner {
				want = impl.OK
			}
			cancel := impl.Cmd{Kind: impl.CmCancel, Owner: owner, Id: id}
			replace := impl.Cmd{Kind: impl.CmReplace, Owner: owner, Id: id, Price: 100, Amount: 1}
			for _, c := range []impl.Cmd{cancel, replace} {
				same(t, textOfCmd(c), impl.OldDo(b, c).Code, want)
				if want != impl.OK {
					refusedOld(t, textOfCmd(c), b, c, impl.ErrNone)
				}
			}
		}
	}
	refusedOld(t, "none at all", impl.OldNew(), cmdOf("cancel 1 1"), impl.ErrNone)
	refusedOld(t, "none at all", impl.OldNew(), cmdOf("replace 1 1 1 1"), impl.ErrNone)
	// One that has gone, by each way that there is.
	gone := oldOf("1/1:100x5d | | 2")
	for _, text := range []string{"cancel 1 1", "roll", "market 2 sell 5"} {
		then := impl.OldDo(gone, cmdOf(text)).Old
		refusedOld(t, "gone by "+text, then, cmdOf("cancel 1 1"), impl.ErrNone)
		refusedOld(t, "gone by "+text, then, cmdOf("replace 1 1 100 1"), impl.ErrNone)
	}
}

// standing is an order of a model that has no lists in order: who is first is asked anew each time.
type standing struct {
	order impl.Order
	buy   bool
	stamp int
}

type oldModel struct {
	all    []*standing
	next   int64
	stamp  int
	events []impl.Event
}

func modelOfOld(b impl.Old) *oldModel {
	m := &oldModel{next: b.Next}
	for _, o := range b.Bids {
		m.add(o, true)
	}
	for _, o := range b.Asks {
		m.add(o, false)
	}
	return m
}

func (m *oldModel) add(o impl.Order, buy bool) {
	m.stamp++
	m.all = append(m.all, &standing{order: o, buy: buy, stamp: m.stamp})
}

func (m *oldModel) side(buy bool) []*standing {
	var out []*standing
	for _, s := range m.all {
		if s.buy == buy {
			out = append(out, s)
		}
	}
	slices.SortFunc(out, func(a, b *standing) int {
		byPrice := cmp.Compare(a.order.Price, b.order.Price)
		if buy {
			byPrice = -byPrice
		}
		return cmp.Or(byPrice, cmp.Compare(a.stamp, b.stamp))
	})
	return out
}

func (m *oldModel) book() impl.Old {
	b := impl.Old{Next: m.next}
	for _, s := range m.side(true) {
		b.Bids = append(b.Bids, s.order)
	}
	for _, s := range m.side(false) {
		b.Asks = append(b.Asks, s.order)
	}
	return b
}

func (m *oldModel) drop(s *standing) {
	m.all = slices.DeleteFunc(m.all, func(other *standing) bool { return other == s })
}

func (m *oldModel) tell(kind, id, other, price, amount int64) {
	m.events = append(m.events, impl.Event{Kind: kind, Id: id, Other: other, Price: price, Amount: amount})
}

// partners are all that one of that side and price may meet, the first one first; a price of 0 is any.
func (m *oldModel) partners(buy bool, price int64) []*standing {
	return slices.DeleteFunc(m.side(!buy), func(s *standing) bool {
		return price != 0 && (buy && s.order.Price > price || !buy && s.order.Price < price)
	})
}

func (m *oldModel) meet(o *impl.Order, buy bool, price int64) {
	for o.Amount > 0 && len(m.partners(buy, price)) > 0 {
		first := m.partners(buy, price)[0]
		amount := min(o.Amount, first.order.Amount)
		m.tell(impl.EvFill, o.Id, first.order.Id, first.order.Price, amount)
		o.Amount -= amount
		first.order.Amount -= amount
		if first.order.Amount == 0 {
			m.drop(first)
		}
	}
}

func (m *oldModel) take(c impl.Cmd) int64 {
	rests := c.Kind == impl.CmLimit && c.Life != impl.LfNow && c.Life != impl.LfAll
	if m.next == impl.MaxTime || rests && len(m.all) == impl.MaxRest {
		return impl.ErrFull
	}
	o := impl.Order{Id: m.next, Owner: c.Owner, Price: c.Price, Amount: c.Amount, Day: c.Life == impl.LfDay}
	m.next++
	m.tell(impl.EvTaken, o.Id, 0, 0, 0)
	there := int64(0)
	for _, s := range m.partners(c.Buy, c.Price) {
		there += s.order.Amount
	}
	if c.Life != impl.LfAll || there >= c.Amount {
		m.meet(&o, c.Buy, c.Price)
	}
	if o.Amount > 0 && rests {
		m.add(o, c.Buy)
	} else if o.Amount > 0 {
		m.tell(impl.EvCut, o.Id, 0, 0, o.Amount)
	}
	return impl.OK
}

func (m *oldModel) turn(c impl.Cmd) int64 {
	at := slices.IndexFunc(m.all, func(s *standing) bool { return s.order.Id == c.Id && s.order.Owner == c.Owner })
	if at < 0 {
		return impl.ErrNone
	}
	s := m.all[at]
	if c.Kind == impl.CmCancel {
		m.drop(s)
		m.tell(impl.EvCut, c.Id, 0, 0, s.order.Amount)
		return impl.OK
	}
	m.tell(impl.EvChanged, c.Id, 0, c.Price, c.Amount)
	if c.Price == s.order.Price && c.Amount < s.order.Amount {
		s.order.Amount = c.Amount
		return impl.OK
	}
	m.drop(s)
	o := s.order
	o.Price, o.Amount = c.Price, c.Amount
	m.meet(&o, s.buy, o.Price)
	if o.Amount > 0 {
		m.add(o, s.buy)
	}
	return impl.OK
}

func (m *oldModel) roll() int64 {
	for _, s := range append(m.side(true), m.side(false)...) {
		if s.order.Day {
			m.drop(s)
			m.tell(impl.EvCut, s.order.Id, 0, 0, s.order.Amount)
		}
	}
	return impl.OK
}

// oldByRule is what the document says of a right book and a right, old command.
func oldByRule(b impl.Old, c impl.Cmd) impl.OldOut {
	m := modelOfOld(b)
	code := int64(impl.OK)
	switch c.Kind {
	case impl.CmLimit, impl.CmMarket:
		code = m.take(c)
	case impl.CmCancel, impl.CmReplace:
		code = m.turn(c)
	case impl.CmRoll:
		code = m.roll()
	}
	if code != impl.OK {
		return impl.OldOut{Code: code}
	}
	return impl.OldOut{Old: m.book(), Events: m.events}
}

func sameOrders(a, b impl.Old) bool {
	return slices.Equal(a.Bids, b.Bids) && slices.Equal(a.Asks, b.Asks) && a.Next == b.Next
}

// keepsPromises looks at one command done to a right book: promises 8 and 9, and the rule itself.
func keepsPromises(t *testing.T, b impl.Old, c impl.Cmd) impl.OldOut {
	t.Helper()
	before := copyOf(b)
	got, want := impl.OldDo(b, c), oldByRule(b, c)
	what := fmt.Sprintf("%s: %s", textOfOld(before), textOfCmd(c))
	if got.Code != want.Code || !slices.Equal(got.Events, want.Events) || !sameOrders(got.Old, want.Old) {
		alike(t, what, got, want)
	}
	if !sameOrders(b, before) {
		t.Errorf("%s: it is changed then: %s", what, textOfOld(b))
	}
	if got.Code != impl.OK {
		return got
	}
	if !impl.OldRight(got.Old) || crossed(got.Old) {
		t.Errorf("%s: not right then, or crossed: %s", what, textOfOld(got.Old))
	}
	for _, e := range got.Events {
		if !impl.EventRight(e) {
			t.Errorf("%s: told an event that is not right: %+v", what, e)
		}
		if e.Kind == impl.EvFill && e.Price != impl.OldFind(before, e.Other).Price {
			t.Errorf("%s: not at the price of the one that stood there: %+v", what, e)
		}
	}
	rungsHaveAll(t, got.Old)
	return got
}

func crossed(b impl.Old) bool {
	for _, bid := range b.Bids {
		for _, ask := range b.Asks {
			if bid.Price >= ask.Price {
				return true
			}
		}
	}
	return false
}

// rungsHaveAll: promise 9.
func rungsHaveAll(t *testing.T, b impl.Old) {
	t.Helper()
	for _, buy := range []bool{true, false} {
		side := b.Asks
		if buy {
			side = b.Bids
		}
		amounts, many := map[int64]int64{}, map[int64]int64{}
		for _, o := range side {
			amounts[o.Price] += o.Amount
			many[o.Price]++
		}
		var want []impl.Rung
		for price := range amounts {
			want = append(want, impl.Rung{Price: price, Amount: amounts[price], Many: many[price]})
		}
		slices.SortFunc(want, func(a, b impl.Rung) int {
			if buy {
				a, b = b, a
			}
			return cmp.Compare(a.Price, b.Price)
		})
		if got := impl.OldLadder(b, buy); !slices.Equal(got, want) {
			t.Errorf("the rungs of %s, buy %v: got %v, want %v", textOfOld(b), buy, got, want)
		}
	}
}

// Promises 8 and 9, over long runs of commands of every Kind.
func TestOldKeepsItsPromisesInLongRuns(t *testing.T) {
	for seed := range int64(40) {
		random := rand.New(rand.NewSource(seed))
		b := impl.OldNew()
		if seed%4 == 3 {
			b.Next = impl.MaxTime - 150
		}
		spread, most := random.Int63n(15)+1, random.Int63n(40)+1
		codes := map[int64]int{}
		for range 400 {
			out := keepsPromises(t, b, someOldCmd(random, b, spread, most))
			codes[out.Code]++
			if out.Code == impl.OK {
				b = out.Old
			}
		}
		if codes[impl.OK] == 0 || codes[impl.ErrNone] == 0 || seed%4 == 3 && codes[impl.ErrFull] == 0 {
			t.Errorf("a run of little worth: %v", codes)
		}
	}
}

// someOldCmd is mostly of an order that there is, as others are just refused.
func someOldCmd(random *rand.Rand, b impl.Old, spread int64, most int64) impl.Cmd {
	owner, price, amount := random.Int63n(3)+1, 5000+random.Int63n(spread), random.Int63n(most)+1
	id := max(1, b.Next-random.Int63n(12))
	all := append(copyOf(b.Bids), b.Asks...)
	if len(all) > 0 && random.Intn(8) > 0 {
		o := all[random.Intn(len(all))]
		id, owner = o.Id, o.Owner
		if random.Intn(2) == 0 {
			price = o.Price
		}
	}
	switch random.Intn(24) {
	case 0:
		return rollOf()
	case 1, 2:
		return impl.Cmd{Kind: impl.CmMarket, Owner: owner, Amount: amount, Buy: random.Intn(2) == 0}
	case 3, 4:
		return impl.Cmd{Kind: impl.CmCancel, Owner: owner, Id: id}
	case 5, 6, 7, 8:
		return impl.Cmd{Kind: impl.CmReplace, Owner: owner, Id: id, Price: price, Amount: amount}
	}
	return impl.Cmd{Kind: impl.CmLimit, Owner: owner, Price: price, Amount: amount, Buy: random.Intn(2) == 0, Life: []int64{0, 0, 0, 1, 1, 2, 3}[random.Intn(7)]}
}

// A book that is mostly full: most that come are worse than the best of the other side.
func TestOldKeepsItsPromisesWhenItIsFull(t *testing.T) {
	for seed := range int64(10) {
		random := rand.New(rand.NewSource(seed))
		b := fullOld(int(seed)+7, impl.MaxRest-7-int(seed))
		full := 0
		for range 300 {
			c := someOldCmd(random, b, 10, 30)
			if c.Price != 0 {
				c.Price = 480 + random.Int63n(140)
			}
			out := keepsPromises(t, b, c)
			if out.Code == impl.ErrFull {
				full++
			}
			if out.Code == impl.OK {
				b = out.Old
			}
			for range impl.MaxRest {
				if len(b.Bids)+len(b.Asks) < impl.MaxRest-2 {
					b = impl.OldDo(b, impl.Cmd{Kind: impl.CmLimit, Owner: 2, Buy: random.Intn(2) == 0, Price: 550, Amount: 9}).Old
				}
			}
		}
		if full == 0 {
			t.Errorf("it was never full")
		}
	}
}

// All small books and all small commands.
func TestOldKeepsItsPromisesInTheSmall(t *testing.T) {
	cmds := smallCmds()
	for _, bids := range smallSides(true) {
		for _, asks := range smallSides(false) {
			b := impl.Old{Bids: copyOf(bids), Asks: copyOf(asks), Next: 9}
			for i := range b.Asks {
				b.Asks[i].Id += 4
			}
			if !impl.OldRight(b) {
				same(t, textOfOld(b), crossed(b), true)
				continue
			}
			for _, c := range cmds {
				keepsPromises(t, b, c)
			}
		}
	}
}

// smallSides: up to two orders, of prices from 2 to 4 and amounts of 1 and 2, the Ids falling.
func smallSides(buy bool) [][]impl.Order {
	out := [][]impl.Order{nil}
	for first := range int64(6) {
		one := impl.Order{Id: 2, Owner: 1, Price: first/2 + 2, Amount: first%2 + 1, Day: first%2 == 0}
		out = append(out, []impl.Order{one})
		for second := range int64(6) {
			two := impl.Order{Id: 1, Owner: 2, Price: second/2 + 2, Amount: second%2 + 1, Day: second%2 == 1}
			if two.Price == one.Price || two.Price < one.Price == buy {
				out = append(out, []impl.Order{one, two})
			}
		}
	}
	return out
}

func smallCmds() []impl.Cmd {
	out := []impl.Cmd{rollOf(), cmdOf("cancel 1 2"), cmdOf("cancel 2 1"), cmdOf("cancel 1 6"), cmdOf("cancel 2 5"), cmdOf("cancel 1 1"), cmdOf("cancel 1 7")}
	for amount := int64(1); amount <= 5; amount++ {
		out = append(out, impl.Cmd{Kind: impl.CmMarket, Owner: 3, Buy: true, Amount: amount}, impl.Cmd{Kind: impl.CmMarket, Owner: 3, Amount: amount})
		for price := int64(1); price <= 5; price++ {
			for life := range int64(4) {
				for _, buy := range []bool{true, false} {
					out = append(out, impl.Cmd{Kind: impl.CmLimit, Owner: 3, Buy: buy, Price: price, Amount: amount, Life: life})
				}
			}
			for id, owner := range map[int64]int64{2: 1, 1: 2, 6: 1, 5: 2} {
				out = append(out, impl.Cmd{Kind: impl.CmReplace, Owner: owner, Id: id, Price: price, Amount: amount})
			}
		}
	}
	return out
}

// inWhichOrder tells who is met, one by one, by orders of the Amount 1 that take all.
func inWhichOrder(t *testing.T, b impl.Old, buy bool) []int64 {
	t.Helper()
	var met []int64
	for range impl.MaxRest * impl.MaxAmount {
		out := impl.OldDo(b, impl.Cmd{Kind: impl.CmMarket, Owner: 9, Buy: buy, Amount: 1})
		if out.Code != impl.OK || len(out.Events) != 2 {
			t.Fatalf("a market order tells %+v", out)
		}
		if out.Events[1].Kind != impl.EvFill {
			return met
		}
		if id := out.Events[1].Other; !slices.Contains(met, id) {
			met = append(met, id)
		}
		b = out.Old
	}
	return met
}

// Promise 10: who comes later at a price is met later.
func TestOldWhoComesLaterIsMetLater(t *testing.T) {
	for _, buy := range []bool{true, false} {
		b := impl.OldNew()
		var want []int64
		for n := range int64(12) {
			b = impl.OldDo(b, impl.Cmd{Kind: impl.CmLimit, Owner: n%9 + 1, Buy: buy, Price: 100, Amount: n%3 + 1, Life: n % 2}).Old
			want = append(want, n+1)
			alike(t, "in order of coming", inWhichOrder(t, b, !buy), want)
		}
		for _, id := range []int64{1, 5, 12, 3} {
			owner, amount := impl.OldFind(b, id).Owner, impl.OldFind(b, id).Amount
			for more := range int64(2) {
				b = impl.OldDo(b, impl.Cmd{Kind: impl.CmReplace, Owner: owner, Id: id, Price: 100, Amount: amount + more}).Old
				want = append(slices.DeleteFunc(want, func(n int64) bool { return n == id }), id)
				alike(t, "as much, or more, comes anew", inWhichOrder(t, b, !buy), want)
			}
		}
		for _, price := range []int64{99, 101} {
			away := impl.OldDo(b, impl.Cmd{Kind: impl.CmReplace, Owner: 2, Id: 2, Price: price, Amount: 1}).Old
			back := impl.OldDo(away, impl.Cmd{Kind: impl.CmReplace, Owner: 2, Id: 2, Price: 100, Amount: 1}).Old
			behind := append(slices.DeleteFunc(slices.Clone(want), func(n int64) bool { return n == 2 }), 2)
			alike(t, "away and back is behind", inWhichOrder(t, back, !buy), behind)
		}
	}
}

// Promise 10: who asks for less at its price is met as early as before.
func TestOldWhoAsksForLessKeepsItsPlace(t *testing.T) {
	for _, buy := range []bool{true, false} {
		b := impl.OldNew()
		for n := range int64(6) {
			b = impl.OldDo(b, impl.Cmd{Kind: impl.CmLimit, Owner: n + 1, Buy: buy, Price: 100, Amount: 10, Life: n % 2}).Old
		}
		want := inWhichOrder(t, b, !buy)
		alike(t, "at first", want, []int64{1, 2, 3, 4, 5, 6})
		for _, amount := range []int64{9, 5, 2, 1} {
			for id := int64(1); id <= 6; id++ {
				out := impl.OldDo(b, impl.Cmd{Kind: impl.CmReplace, Owner: id, Id: id, Price: 100, Amount: amount})
				alike(t, "told", out.Events, []impl.Event{{Kind: impl.EvChanged, Id: id, Price: 100, Amount: amount}})
				b = out.Old
				same(t, "what is left", impl.OldFind(b, id).Amount, amount)
				same(t, "for the day", impl.OldFind(b, id).Day, id%2 == 0)
				alike(t, "it keeps its place", inWhichOrder(t, b, !buy), want)
			}
		}
	}
}

func TestOldAnswersOfABookThatIsNotRight(t *testing.T) {
	for what, b := range wrongOlds() {
		before := copyOf(b)
		for _, buy := range []bool{true, false} {
			same(t, what+": best", impl.OldBest(b, buy), impl.Order{})
			alike(t, what+": ladder", impl.OldLadder(b, buy), nil)
		}
		for _, id := range []int64{0, 1, 2, 3, 4, 5, 6, 7} {
			same(t, what+": find", impl.OldFind(b, id), impl.Order{})
		}
		same(t, what+": count", impl.OldCount(b), 0)
		alike(t, what+": what was handed in", b, before)
	}
}

func TestOldBest(t *testing.T) {
	b := oldOf(someOldText)
	same(t, "bid", impl.OldBest(b, true), impl.Order{Id: 3, Owner: 1, Price: 100, Amount: 5})
	same(t, "ask", impl.OldBest(b, false), impl.Order{Id: 5, Owner: 3, Price: 102, Amount: 4, Day: true})
	same(t, "no bid", impl.OldBest(oldOf("| 1/1:5x1 | 2"), true), impl.Order{})
	same(t, "no ask", impl.OldBest(oldOf("1/1:5x1 | | 2"), false), impl.Order{})
	for _, buy := range []bool{true, false} {
		same(t, "none", impl.OldBest(impl.OldNew(), buy), impl.Order{})
	}
	same(t, "the first of a price, not the least Id", impl.OldBest(oldOf("9/1:5x1 1/1:5x2 | | 10"), true).Id, 9)
	for what, b := range rightOlds() {
		if len(b.Bids) > 0 {
			same(t, what, impl.OldBest(b, true), b.Bids[0])
		}
		if len(b.Asks) > 0 {
			same(t, what, impl.OldBest(b, false), b.Asks[0])
		}
	}
}

func TestOldLadder(t *testing.T) {
	b := oldOf(someOldText)
	alike(t, "bids", impl.OldLadder(b, true), []impl.Rung{{Price: 100, Amount: 12, Many: 2}, {Price: 99, Amount: 1, Many: 1}})
	alike(t, "asks", impl.OldLadder(b, false), []impl.Rung{{Price: 102, Amount: 4, Many: 1}, {Price: 103, Amount: 15, Many: 2}})
	alike(t, "no bids", impl.OldLadder(oldOf("| 1/1:5x1 | 2"), true), nil)
	alike(t, "no asks", impl.OldLadder(oldOf("1/1:5x1 | | 2"), false), nil)
	most := impl.Old{Next: 25}
	for id := int64(1); id <= impl.MaxRest; id++ {
		most.Asks = append(most.Asks, impl.Order{Id: id, Owner: 1, Price: impl.MaxPrice, Amount: impl.MaxAmount})
	}
	alike(t, "all at one price", impl.OldLadder(most, false), []impl.Rung{{Price: 10000, Amount: 24000, Many: 24}})
	same(t, "each price once", len(impl.OldLadder(fullOld(24, 0), true)), 24)
	for _, b := range rightOlds() {
		rungsHaveAll(t, b)
		for _, buy := range []bool{true, false} {
			fresh(t, "ladder", impl.OldLadder(b, buy), b)
		}
	}
}

func TestOldFind(t *testing.T) {
	b := oldOf(someOldText)
	for _, o := range append(copyOf(b.Bids), b.Asks...) {
		same(t, "one that is there", impl.OldFind(b, o.Id), o)
	}
	for _, id := range []int64{math.MinInt64, -1, 0, 7, 8, impl.MaxTime, math.MaxInt64} {
		same(t, fmt.Sprintf("Id %d", id), impl.OldFind(b, id), impl.Order{})
		same(t, fmt.Sprintf("Id %d of none", id), impl.OldFind(impl.OldNew(), id), impl.Order{})
	}
	same(t, "one that has gone", impl.OldFind(oldOf("1/1:5x1 | 4/1:6x1 | 9"), 3), impl.Order{})
	for what, b := range rightOlds() {
		for _, o := range append(copyOf(b.Bids), b.Asks...) {
			same(t, what, impl.OldFind(b, o.Id), o)
		}
	}
}

func TestOldCount(t *testing.T) {
	same(t, "none", impl.OldCount(impl.OldNew()), 0)
	same(t, "some", impl.OldCount(oldOf(someOldText)), 6)
	for bids := range impl.MaxRest + 1 {
		for asks := range impl.MaxRest + 1 - bids {
			same(t, "both", impl.OldCount(fullOld(bids, asks)), int64(bids+asks))
		}
	}
	for what, b := range rightOlds() {
		same(t, what, impl.OldCount(b), int64(len(b.Bids)+len(b.Asks)))
	}
}

// Lists with room behind them, and both sides cut from one list: nothing is written there, and nothing of it is told.
func TestOldDoLeavesWhatStandsBehindAList(t *testing.T) {
	for _, k := range []string{
		"limit 5 buy 100 4 stay", "limit 5 sell 103 4 day", "limit 5 buy 104 40 stay", "limit 5 sell 1 40 day", "limit 5 buy 103 2 all", "market 5 buy 7", "market 5 sell 7",
		"market 5 buy 100", "cancel 1 3", "cancel 3 5", "replace 1 3 100 2", "replace 1 3 100 9", "replace 1 3 103 30", "replace 4 4 1 30", "replace 4 4 105 1", "roll",
	} {
		whole := append(make([]impl.Order, 0, 20), ordersOf("3/1:100x5 1/2:100x7d 6/2:99x1 5/3:102x4d 2/1:103x6 4/4:103x9")...)
		b := impl.Old{Bids: whole[:3], Asks: whole[3:], Next: 7}
		before := copyOf(whole[:20])
		out := impl.OldDo(b, cmdOf(k))
		same(t, k, out.Code, impl.OK)
		alike(t, k, out, oldByRule(oldOf(someOldText), cmdOf(k)))
		alike(t, k+": what was handed in", whole[:20], before)
		fresh(t, k, out, b)
		// What was told does not change by what is done to it, nor does one of its lists by what is done to the other.
		again := copyOf(out)
		impl.OldDo(out.Old, cmdOf("market 6 buy 9"))
		impl.OldDo(out.Old, cmdOf("limit 6 sell 1 1000 stay"))
		alike(t, k+": told", out, again)
		_ = append(out.Old.Bids, impl.Order{Id: 99})
		_ = append(out.Old.Asks, impl.Order{Id: 98})
		alike(t, k+": told", out, again)
	}
	empty := make([]impl.Order, 0, 8)
	out := impl.OldDo(impl.Old{Bids: empty, Asks: empty, Next: 1}, cmdOf("limit 1 buy 5 5 stay"))
	alike(t, "room alone", out, impl.OldOut{Old: oldOf("1/1:5x5 | | 2"), Events: eventsOf("taken 1")})
	alike(t, "room alone: what was handed in", empty[:8], make([]impl.Order, 8))
}

// What stands behind a list is not the book's, and is there for others.
func TestOldCallsWriteNothingBehindAList(t *testing.T) {
	behind := ordersOf("91/1:1x1 92/1:2x2 93/1:3x3 94/1:4x4 95/1:5x5")
	some := oldOf(someOldText)
	bids, asks := append(copyOf(some.Bids), behind...), append(copyOf(some.Asks), behind...)
	b := impl.Old{Bids: bids[:3], Asks: asks[:3], Next: 7}
	calls := map[string]func(){
		"OldRight":  func() { impl.OldRight(b) },
		"OldBest":   func() { impl.OldBest(b, true) },
		"OldLadder": func() { impl.OldLadder(b, false) },
		"OldFind":   func() { impl.OldFind(b, 4) },
		"OldCount":  func() { impl.OldCount(b) },
	}
	for _, c := range append(smallCmds(), baseCmds()...) {
		calls["OldDo: "+textOfCmd(c)] = func() { impl.OldDo(b, c) }
	}
	for what, call := range calls {
		call()
		alike(t, what, bids, append(copyOf(some.Bids), behind...))
		alike(t, what, asks, append(copyOf(some.Asks), behind...))
	}
}

// The same commands tell the same, however often they are asked for.
func TestOldDoKeepsNothing(t *testing.T) {
	b := oldOf(someOldText)
	c := cmdOf("limit 5 buy 103 12 stay")
	first := copyOf(impl.OldDo(b, c))
	for range 3 {
		impl.OldDo(b, cmdOf("market 1 sell 9"))
		impl.OldDo(impl.OldNew(), c)
		impl.OldDo(b, impl.Cmd{})
		alike(t, "once more", impl.OldDo(b, c), first)
	}
}
