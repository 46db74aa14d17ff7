package tests

import (
	"fmt"
	"math"
	"math/rand"
	"regexp"
	"slices"
	"strconv"
	"strings"
	"testing"

	"loop.example/g00446/impl"
)

var restingWord = regexp.MustCompile(`^(\d+)/(\d+):(\d+)x(\d+)(?:\+(\d+))?(?:p(\d+))?(d?)(g?)$`)

// newOf reads a book as oldOf does; an order may have behind its amount what it hides (+5), its peak (p4), d (for the day) and g (a guard).
func newOf(text string) impl.New {
	parts := strings.Split(text, "|")
	if len(parts) != 3 {
		panic("no book: " + text)
	}
	b := impl.New{Bids: levelled(restingOf(parts[0])), Asks: levelled(restingOf(parts[1]))}
	if _, err := fmt.Sscan(parts[2], &b.Next); err != nil {
		panic("no book: " + text)
	}
	return b
}

func restingOf(text string) []impl.Order {
	var out []impl.Order
	for _, word := range strings.Fields(text) {
		m := restingWord.FindStringSubmatch(word)
		if m == nil {
			panic("no order: " + word)
		}
		var n [7]int64
		for i := 1; i < 7; i++ {
			n[i], _ = strconv.ParseInt(m[i], 10, 64)
		}
		out = append(out, impl.Order{Id: n[1], Owner: n[2], Price: n[3], Amount: n[4], Hidden: n[5], Peak: n[6], Day: m[7] == "d", Guard: m[8] == "g"})
	}
	return out
}

// levelled lays orders of one Price that stand together into one Level.
func levelled(l []impl.Order) []impl.Level {
	var out []impl.Level
	for i, o := range l {
		if i == 0 || o.Price != l[i-1].Price {
			out = append(out, impl.Level{Price: o.Price})
		}
		last := &out[len(out)-1]
		last.Orders = append(last.Orders, o)
	}
	return out
}

func newFromOld(b impl.Old) impl.New {
	return impl.New{Bids: levelled(b.Bids), Asks: levelled(b.Asks), Next: b.Next}
}

func restingIn(l []impl.Level) []impl.Order {
	var out []impl.Order
	for _, level := range l {
		out = append(out, level.Orders...)
	}
	return out
}

func allOf(b impl.New) []impl.Order {
	return append(restingIn(b.Bids), restingIn(b.Asks)...)
}

// textOfNew sets each level's price ahead of it, so that two of one price are seen.
func textOfNew(b impl.New) string {
	return fmt.Sprintf("%s | %s | %d", textOfLevels(b.Bids), textOfLevels(b.Asks), b.Next)
}

func textOfLevels(l []impl.Level) string {
	var words []string
	for _, level := range l {
		words = append(words, fmt.Sprintf("%d[%s]", level.Price, textOfOrders(level.Orders)))
	}
	return strings.Join(words, " ")
}

// fullNew has that many orders on each side, so many a level, as fullOld has them; every third has a peak, every fifth a guard.
func fullNew(bids int, asks int, each int) impl.New {
	old := fullOld(bids, asks)
	for _, side := range [][]impl.Order{old.Bids, old.Asks} {
		for i := range side {
			side[i].Price = side[i/each*each].Price
			if i%3 == 0 {
				side[i].Peak, side[i].Hidden = 10, int64(i%2)*7
			}
			side[i].Guard = i%5 == 0
		}
	}
	return newFromOld(old)
}

const someNewText = "3/1:100x5+4p6 1/2:100x7d 6/2:99x1p1g | 5/3:102x4+9p4d 2/1:103x6g 4/4:103x9 | 7"

func rightNews() map[string]impl.New {
	out := map[string]impl.New{
		"empty lists":           {Bids: []impl.Level{}, Asks: []impl.Level{}, Next: 1},
		"MaxRest bids a level":  fullNew(24, 0, 24),
		"MaxRest asks a level":  fullNew(0, 24, 24),
		"MaxRest, one each":     fullNew(12, 12, 1),
		"MaxRest, five a level": fullNew(11, 13, 5),
		"one less than MaxRest": fullNew(20, 3, 4),
	}
	for what, b := range rightOlds() {
		out["as an older one: "+what] = newFromOld(b)
	}
	for _, text := range []string{
		someNewText, "1/1:5x1p1 | | 2", "1/1:5x1p1000 | | 2", "1/1:5x1+999p1 | | 2", "1/1:5x1000p1000 | | 2", "1/1:5x1000 | | 2", "1/1:5x500+500p500 | | 2", "1/1:5x1+1p1g | | 2",
		"| 1/1:5x1+999p1000dg | 2", "| 1/1:5x999+1p999 | 2", "| 1/1:5x3+2p7 2/1:5x1g 3/1:6x2p2 | 4", "1/1:5x1g | 2/1:6x1g | 3",
	} {
		out[text] = newOf(text)
	}
	return out
}

func wrongNews() map[string]impl.New {
	out := map[string]impl.New{
		"one more than MaxRest in a level":        fullNew(25, 0, 25),
		"one more than MaxRest asks in a level":   fullNew(0, 25, 25),
		"one more than MaxRest, one each":         fullNew(0, 25, 1),
		"one more than MaxRest over some":         fullNew(25, 0, 4),
		"one more than MaxRest over both, a lot":  fullNew(13, 12, 13),
		"one more than MaxRest over both, a few":  fullNew(12, 13, 3),
		"one more than MaxRest over both, 24 + 1": fullNew(24, 1, 6),
		"one more than MaxRest over both, 1 + 24": fullNew(1, 24, 6),
	}
	for what, b := range wrongOlds() {
		if !strings.Contains(what, "Peak") && !strings.Contains(what, "Hidden") && !strings.Contains(what, "Guard") {
			out["as an older one: "+what] = newFromOld(b)
		}
	}
	for _, text := range []string{
		"1/1:5x1+1 | | 2", "| 1/1:5x1+1 | 2", "1/1:5x2p1 | | 2", "| 1/1:5x5+1p4 | 2", "1/1:5x1001p1001 | | 2", "1/1:5x1p1001 | | 2", "1/1:5x1+1000p1 | | 2", "1/1:5x1000+1p1000 | | 2",
		"1/1:5x501+500p501 | | 2", "1/1:5x0p4 | | 2", "1/1:5x0+4p4 | | 2", "| 1/1:5x999+2p999 | 2",
		"2/2:6x1 1/1:5x1+1 | | 3", "2/2:5x1 1/1:5x2p1 | | 3", "2/2:5x1p1 | 1/1:6x2p1 | 3",
	} {
		out[text] = newOf(text)
	}
	for what, b := range wrongLevels() {
		out[what] = b
	}
	return out
}

// wrongLevels have orders that may rest as they stand, but not in these Levels.
func wrongLevels() map[string]impl.New {
	out := map[string]impl.New{}
	sides := func(what string, bids []impl.Level, next int64) {
		out["bids: "+what] = impl.New{Bids: bids, Next: next}
		out["asks: "+what] = mirroredNew(impl.New{Bids: bids, Next: next})
	}
	one := func(price int64, ids ...int64) impl.Level {
		level := impl.Level{Price: price}
		for _, id := range ids {
			level.Orders = append(level.Orders, impl.Order{Id: id, Owner: 1, Price: price, Amount: 3})
		}
		return level
	}
	sides("an empty level alone", []impl.Level{one(5)}, 9)
	sides("an empty level alone, with a list", []impl.Level{{Price: 5, Orders: []impl.Order{}}}, 9)
	sides("the zero level", []impl.Level{{}}, 9)
	sides("an empty level first", []impl.Level{one(6), one(5, 1), one(4, 2)}, 9)
	sides("an empty level between", []impl.Level{one(6, 1), one(5), one(4, 2)}, 9)
	sides("an empty level last", []impl.Level{one(6, 1), one(5, 2), one(4)}, 9)
	sides("an empty level between two of one price", []impl.Level{one(6, 1), one(5), one(6, 2)}, 9)
	sides("two of one price", []impl.Level{one(5, 1), one(5, 2)}, 9)
	sides("two of one price first", []impl.Level{one(6, 1), one(6, 2), one(4, 3)}, 9)
	sides("two of one price last", []impl.Level{one(6, 1), one(4, 2), one(4, 3)}, 9)
	sides("three of one price", []impl.Level{one(4, 1), one(4, 2), one(4, 3)}, 9)
	sides("two of one price, with several", []impl.Level{one(6, 1, 2), one(6, 3, 4)}, 9)
	sides("prices the other way", []impl.Level{one(5, 1), one(6, 2)}, 9)
	sides("one price twice, but not together", []impl.Level{one(6, 1), one(5, 2), one(6, 3)}, 9)
	sides("prices out of order at the end", []impl.Level{one(7, 1), one(5, 2), one(6, 3)}, 9)
	sides("one Id twice in a level", []impl.Level{one(5, 1, 2, 1)}, 9)
	sides("one Id in two levels", []impl.Level{one(5, 1, 2), one(4, 3, 1)}, 9)
	for at := range 3 {
		level := one(5, 1, 2, 3)
		level.Orders[at].Price = 6
		sides(fmt.Sprintf("order %d at another price", at), []impl.Level{level}, 9)
		level = one(5, 1, 2, 3)
		level.Orders[at].Price = 4
		sides(fmt.Sprintf("order %d at a worse price", at), []impl.Level{level}, 9)
	}
	level := one(5, 1, 2)
	level.Price = 6
	sides("all orders at another price", []impl.Level{level}, 9)
	level.Price = 0
	sides("a level of no price", []impl.Level{level}, 9)
	sides("a level of no price, nor its order", []impl.Level{one(0, 1)}, 9)
	out["both sides: one Id on both"] = impl.New{Bids: []impl.Level{one(5, 1, 2)}, Asks: []impl.Level{one(7, 3, 2)}, Next: 9}
	out["both sides: crossed"] = impl.New{Bids: []impl.Level{one(7, 1)}, Asks: []impl.Level{one(7, 3)}, Next: 9}
	out["both sides: crossed behind the first"] = impl.New{Bids: []impl.Level{one(7, 1), one(4, 2)}, Asks: []impl.Level{one(6, 3), one(9, 4)}, Next: 9}
	return out
}

func mirroredNew(b impl.New) impl.New {
	return impl.New{Bids: mirroredLevels(b.Asks), Asks: mirroredLevels(b.Bids), Next: b.Next}
}

func mirroredLevels(l []impl.Level) []impl.Level {
	var out []impl.Level
	for _, level := range l {
		out = append(out, impl.Level{Price: impl.MaxPrice + 1 - level.Price, Orders: mirroredOrders(level.Orders)})
	}
	return out
}

func TestNewRight(t *testing.T) {
	for what, b := range rightNews() {
		same(t, what, impl.NewRight(b), true)
		same(t, what+", the sides turned round", impl.NewRight(mirroredNew(b)), true)
	}
	for what, b := range wrongNews() {
		same(t, what, impl.NewRight(b), false)
	}
}

// All that stands in wrongLevels is right with its levels mended.
func TestNewRightOfLevels(t *testing.T) {
	for _, text := range []string{"1/1:6x3 2/1:4x3 | | 9", "1/1:5x3 2/1:5x3 3/1:5x3 | | 9", "1/1:7x3 3/1:6x3 2/1:5x3 | | 9", "1/1:5x3 2/1:5x3 | 3/1:7x3 4/1:7x3 | 9", "1/1:4x3 | 3/1:7x3 | 9"} {
		b := newOf(text)
		same(t, text, impl.NewRight(b), true)
		same(t, text, impl.NewRight(mirroredNew(b)), true)
	}
	for first := int64(-1); first <= 6; first++ {
		for second := int64(-1); second <= 6; second++ {
			for third := int64(-1); third <= 6; third++ {
				bids := []impl.Level{{Price: first, Orders: restingOf("3/1:3x1 1/1:3x1")}, {Price: second, Orders: restingOf("4/1:3x1")}, {Price: third, Orders: restingOf("2/1:3x1")}}
				for i := range bids {
					for j := range bids[i].Orders {
						bids[i].Orders[j].Price = bids[i].Price
					}
				}
				what := fmt.Sprintf("levels %d %d %d", first, second, third)
				same(t, "bids: "+what, impl.NewRight(impl.New{Bids: bids, Next: 5}), first > second && second > third && third > 0)
				same(t, "asks: "+what, impl.NewRight(impl.New{Asks: bids, Next: 5}), first < second && second < third && first > 0)
			}
		}
	}
}

func TestNewRightAtTheLimits(t *testing.T) {
	numbers := []struct {
		what  string
		least int64
		most  int64
		turn  func(b *impl.New, o *impl.Order, n int64)
	}{
		{"Id", 1, 6, func(b *impl.New, o *impl.Order, n int64) { o.Id = n }},
		{"Owner", 1, 9, func(b *impl.New, o *impl.Order, n int64) { o.Owner = n }},
		{"Price", 1, 10000, func(b *impl.New, o *impl.Order, n int64) { o.Price = n }},
		{"Amount, without a peak", 1, 1000, func(b *impl.New, o *impl.Order, n int64) { o.Amount = n }},
		{"Hidden, without a peak", 0, 0, func(b *impl.New, o *impl.Order, n int64) { o.Hidden = n }},
		{"Amount, of a peak of 9", 1, 9, func(b *impl.New, o *impl.Order, n int64) { o.Peak, o.Amount = 9, n }},
		{"Amount, of a peak of 1000", 1, 1000, func(b *impl.New, o *impl.Order, n int64) { o.Peak, o.Amount = 1000, n }},
		{"Amount, of a peak of 1000, and 991 hidden", 1, 9, func(b *impl.New, o *impl.Order, n int64) { o.Peak, o.Amount, o.Hidden = 1000, n, 991 }},
		{"Hidden, of a peak of 9", 0, 999, func(b *impl.New, o *impl.Order, n int64) { o.Peak, o.Amount, o.Hidden = 9, 1, n }},
		{"Hidden, of an Amount of 1000", 0, 0, func(b *impl.New, o *impl.Order, n int64) { o.Peak, o.Amount, o.Hidden = 1000, 1000, n }},
		{"Next", 4, 1000000, func(b *impl.New, o *impl.Order, n int64) { b.Next = n }},
	}
	for _, number := range numbers {
		for _, n := range []int64{math.MinInt64, -2, -1, 0, 1, 2, 3, 4, 5, 6, 7, 8, 9, 10, 24, 25, 998, 999, 1000, 1001, 9999, 10000, 10001, 999999, 1000000, 1000001, math.MaxInt64} {
			b, l := impl.New{Next: 7}, restingOf("3/2:100x5")
			number.turn(&b, &l[0], n)
			want := n >= number.least && n <= number.most
			same(t, fmt.Sprintf("a bid: %s %d", number.what, n), impl.NewRight(impl.New{Bids: levelled(l), Next: b.Next}), want)
			same(t, fmt.Sprintf("an ask: %s %d", number.what, n), impl.NewRight(impl.New{Asks: levelled(l), Next: b.Next}), want)
		}
	}
}

// Each limit of what is shown and hidden, against each other, wherever the order stands.
func TestNewRightOfPeaks(t *testing.T) {
	numbers := []int64{math.MinInt64, -1000, -1, 0, 1, 2, 3, 499, 500, 501, 997, 998, 999, 1000, 1001, 2000, math.MaxInt64 - 1, math.MaxInt64}
	for _, peak := range numbers {
		for _, hidden := range numbers {
			for _, amount := range numbers {
				want := peak >= 0 && peak <= 1000 && hidden >= 0 && hidden <= 1000 && amount >= 1 && amount <= 1000
				want = want && (peak > 0 || hidden == 0) && (peak == 0 || amount <= peak) && hidden+amount <= 1000
				for place := range 6 {
					b := newOf("3/1:100x5 1/2:100x7 6/2:99x1 | 5/3:102x4 2/1:103x6 4/4:103x9 | 7")
					o := []*impl.Order{&b.Bids[0].Orders[0], &b.Bids[0].Orders[1], &b.Bids[1].Orders[0], &b.Asks[0].Orders[0], &b.Asks[1].Orders[0], &b.Asks[1].Orders[1]}[place]
					o.Peak, o.Hidden, o.Amount, o.Guard = peak, hidden, amount, place%2 == 0
					if got := impl.NewRight(b); got != want {
						t.Errorf("order %d with Peak %d, Hidden %d, Amount %d: got %v, want %v", place, peak, hidden, amount, got, want)
					}
				}
			}
		}
	}
}

func TestNewRightOfMany(t *testing.T) {
	for bids := range 27 {
		for asks := range 27 {
			for _, each := range []int{1, 2, 5, 30} {
				same(t, fmt.Sprintf("%d bids, %d asks, %d a level", bids, asks, each), impl.NewRight(fullNew(bids, asks, each)), bids+asks <= 24)
			}
		}
	}
	// A list that all levels share is far more than can be gone through one by one.
	far := impl.Level{Price: 5, Orders: make([]impl.Order, 100000)}
	b := impl.New{Next: 9}
	for range 100000 {
		b.Bids, b.Asks = append(b.Bids, far), append(b.Asks, far)
	}
	same(t, "far more", impl.NewRight(b), false)
	same(t, "far more, done to", impl.NewDo(b, rollOf()).Code, impl.ErrForm)
	same(t, "far more empty levels", impl.NewRight(impl.New{Bids: make([]impl.Level, 100000), Next: 9}), false)
}

func TestNewNew(t *testing.T) {
	alike(t, "a new one", impl.NewNew(), impl.New{Next: 1})
	same(t, "is it right?", impl.NewRight(impl.NewNew()), true)
	alike(t, "done to", impl.NewDo(impl.NewNew(), cmdOf("limit 1 buy 5 6 day peak 2 guard")), impl.NewOut{New: newOf("1/1:5x2+4p2dg | | 2"), Events: eventsOf("taken 1")})
	alike(t, "once more", impl.NewNew(), impl.New{Next: 1})
}

// doesNew: is this what the command does, with nothing that was handed in changed or shared?
func doesNew(t *testing.T, b impl.New, c impl.Cmd, want impl.NewOut) {
	t.Helper()
	what := fmt.Sprintf("%s: %s", textOfNew(b), textOfCmd(c))
	before := copyOf(b)
	got := impl.NewDo(b, c)
	alike(t, what, got, want)
	alike(t, what+": what was handed in", b, before)
	fresh(t, what, got, b)
	if got.Code == impl.OK && !impl.NewRight(got.New) {
		t.Errorf("%s: it is not right then: %s", what, textOfNew(got.New))
	}
}

// newBothWays looks at each case, at the same with the sides turned round, and at what the model tells.
func newBothWays(t *testing.T, cases []oldCase) {
	t.Helper()
	for _, k := range cases {
		b, c := newOf(k.book), cmdOf(k.cmd)
		want := impl.NewOut{New: newOf(k.after), Events: eventsOf(k.events)}
		alike(t, k.book+": "+k.cmd+": the model", newByRule(b, c), want)
		doesNew(t, b, c, want)
		turned := impl.NewOut{New: mirroredNew(want.New), Events: mirroredEvents(want.Events)}
		doesNew(t, mirroredNew(b), mirroredCmd(c), turned)
	}
}

func TestNewDoRestsWithAPeak(t *testing.T) {
	newBothWays(t, []oldCase{
		// whole
		{"| | 1", "limit 1 buy 100 9 stay peak 4", "taken 1", "1/1:100x4+5p4 | | 2"},
		{"| | 1", "limit 1 buy 100 9 day peak 8", "taken 1", "1/1:100x8+1p8d | | 2"},
		{"| | 1", "limit 1 buy 100 9 day peak 9", "taken 1", "1/1:100x9p9d | | 2"},
		{"| | 1", "limit 1 buy 100 9 stay peak 1", "taken 1", "1/1:100x1+8p1 | | 2"},
		{"| | 1", "limit 1 buy 100 9 stay", "taken 1", "1/1:100x9 | | 2"},
		{"| | 1", "limit 1 buy 100 1000 stay peak 1", "taken 1", "1/1:100x1+999p1 | | 2"},
		{"| | 1", "limit 1 buy 100 1000 stay peak 999", "taken 1", "1/1:100x999+1p999 | | 2"},
		{"| | 1", "limit 1 buy 100 1000 stay peak 1000", "taken 1", "1/1:100x1000p1000 | | 2"},
		{"| | 1", "limit 1 buy 100 1 stay peak 1", "taken 1", "1/1:100x1p1 | | 2"},
		{"| | 1", "limit 1 buy 100 9 day post peak 4 guard", "taken 1", "1/1:100x4+5p4dg | | 2"},
		{"| | 1", "limit 1 buy 100 9 stay guard", "taken 1", "1/1:100x9g | | 2"},
		// after it has met some; all of it meets, not what it would show
		{"| 1/1:100x3 | 2", "limit 2 buy 100 9 stay peak 4", "taken 2; fill 2 1 100 3", "2/2:100x4+2p4 | | 3"},
		{"| 1/1:100x4 | 2", "limit 2 buy 100 9 day peak 4", "taken 2; fill 2 1 100 4", "2/2:100x4+1p4d | | 3"},
		{"| 1/1:100x5 | 2", "limit 2 buy 100 9 stay peak 4", "taken 2; fill 2 1 100 5", "2/2:100x4p4 | | 3"},
		{"| 1/1:100x6 | 2", "limit 2 buy 100 9 stay peak 4", "taken 2; fill 2 1 100 6", "2/2:100x3p3 | | 3"},
		{"| 1/1:100x8 | 2", "limit 2 buy 100 9 day peak 4 guard", "taken 2; fill 2 1 100 8", "2/2:100x1p1dg | | 3"},
		{"| 1/1:100x9 | 2", "limit 2 buy 100 9 stay peak 4", "taken 2; fill 2 1 100 9", "| | 3"},
		{"| 1/1:100x20 | 2", "limit 2 buy 100 9 stay peak 1", "taken 2; fill 2 1 100 9", "| 1/1:100x11 | 3"},
		{"| 1/1:100x2+6p2 | 2", "limit 2 buy 101 20 stay peak 7", "taken 2; fill 2 1 100 2; fill 2 1 100 2; fill 2 1 100 2; fill 2 1 100 2", "2/2:101x7+5p7 | | 3"},
		// behind those of its price, and at its place among the prices
		{"1/1:100x3+1p3 2/1:99x1 | | 3", "limit 2 buy 100 9 stay peak 4", "taken 3", "1/1:100x3+1p3 3/2:100x4+5p4 2/1:99x1 | | 4"},
		{"1/1:100x3+1p3 2/1:98x1 | | 3", "limit 2 buy 99 9 stay peak 4", "taken 3", "1/1:100x3+1p3 3/2:99x4+5p4 2/1:98x1 | | 4"},
		{"1/1:100x3+1p3 2/1:98x1 | | 3", "limit 2 buy 101 9 stay peak 4", "taken 3", "3/2:101x4+5p4 1/1:100x3+1p3 2/1:98x1 | | 4"},
		{"1/1:100x3+1p3 2/1:98x1 | | 3", "limit 2 buy 97 9 stay peak 4", "taken 3", "1/1:100x3+1p3 2/1:98x1 3/2:97x4+5p4 | | 4"},
		{"1/1:100x3+1p3 2/1:98x1 | | 3", "limit 2 buy 98 9 stay peak 4", "taken 3", "1/1:100x3+1p3 2/1:98x1 3/2:98x4+5p4 | | 4"},
	})
}

func TestNewDoMeetsOneWithAPeak(t *testing.T) {
	alone := "| 1/1:100x4+5p4 | 2"
	newBothWays(t, []oldCase{
		// once, several times, and to its end
		{alone, "limit 2 buy 100 1 stay", "taken 2; fill 2 1 100 1", "| 1/1:100x3+5p4 | 3"},
		{alone, "limit 2 buy 100 3 now", "taken 2; fill 2 1 100 3", "| 1/1:100x1+5p4 | 3"},
		{alone, "limit 2 buy 100 4 stay", "taken 2; fill 2 1 100 4", "| 1/1:100x4+1p4 | 3"},
		{alone, "limit 2 buy 100 5 day", "taken 2; fill 2 1 100 4; fill 2 1 100 1", "| 1/1:100x3+1p4 | 3"},
		{alone, "limit 2 buy 100 7 all", "taken 2; fill 2 1 100 4; fill 2 1 100 3", "| 1/1:100x1+1p4 | 3"},
		{alone, "market 2 buy 8", "taken 2; fill 2 1 100 4; fill 2 1 100 4", "| 1/1:100x1p1 | 3"},
		{alone, "limit 2 buy 100 9 all", "taken 2; fill 2 1 100 4; fill 2 1 100 4; fill 2 1 100 1", "| | 3"},
		{alone, "limit 2 buy 100 10 stay", "taken 2; fill 2 1 100 4; fill 2 1 100 4; fill 2 1 100 1", "2/2:100x1 | | 3"},
		{alone, "limit 2 buy 100 10 now", "taken 2; fill 2 1 100 4; fill 2 1 100 4; fill 2 1 100 1; cut 2 1", "| | 3"},
		{alone, "market 2 buy 1000", "taken 2; fill 2 1 100 4; fill 2 1 100 4; fill 2 1 100 1; cut 2 991", "| | 3"},
		// Hidden is less than the Peak, as much, and more
		{"| 1/1:100x4+3p4d | 2", "market 2 buy 4", "taken 2; fill 2 1 100 4", "| 1/1:100x3p3d | 3"},
		{"| 1/1:100x4+1p4 | 2", "market 2 buy 4", "taken 2; fill 2 1 100 4", "| 1/1:100x1p1 | 3"},
		{"| 1/1:100x4+4p4g | 2", "market 2 buy 4", "taken 2; fill 2 1 100 4", "| 1/1:100x4p4g | 3"},
		{"| 1/1:100x4+5p4dg | 2", "market 2 buy 4", "taken 2; fill 2 1 100 4", "| 1/1:100x4+1p4dg | 3"},
		{"| 1/1:100x1+999p1 | 2", "market 2 buy 2", "taken 2; fill 2 1 100 1; fill 2 1 100 1", "| 1/1:100x1+997p1 | 3"},
		{"| 1/1:100x1+999p1000 | 2", "market 2 buy 1", "taken 2; fill 2 1 100 1", "| 1/1:100x999p999 | 3"},
		{"| 1/1:100x999+1p999 | 2", "market 2 buy 1000", "taken 2; fill 2 1 100 999; fill 2 1 100 1", "| | 3"},
		// less than its Peak is shown: it has its whole Peak then, and keeps it as long as something is shown
		{"| 1/1:100x2+5p4 | 2", "market 2 buy 1", "taken 2; fill 2 1 100 1", "| 1/1:100x1+5p4 | 3"},
		{"| 1/1:100x2+5p4 | 2", "market 2 buy 2", "taken 2; fill 2 1 100 2", "| 1/1:100x4+1p4 | 3"},
		{"| 1/1:100x2+3p4 | 2", "market 2 buy 2", "taken 2; fill 2 1 100 2", "| 1/1:100x3p3 | 3"},
		{"| 1/1:100x2p4 | 2", "market 2 buy 1", "taken 2; fill 2 1 100 1", "| 1/1:100x1p4 | 3"},
		{"| 1/1:100x2p4 | 2", "market 2 buy 2", "taken 2; fill 2 1 100 2", "| | 3"},
		{"| 1/1:100x2p4 | 2", "limit 2 buy 100 3 stay", "taken 2; fill 2 1 100 2", "2/2:100x1 | | 3"},
		// what it hides goes ahead of worse prices
		{"| 1/1:100x1+2p1 2/2:101x5 | 3", "limit 3 buy 101 4 stay", "taken 3; fill 3 1 100 1; fill 3 1 100 1; fill 3 1 100 1; fill 3 2 101 1", "| 2/2:101x4 | 4"},
		{"| 1/1:100x1+2p1 2/2:101x5 | 3", "limit 3 buy 101 2 stay", "taken 3; fill 3 1 100 1; fill 3 1 100 1", "| 1/1:100x1p1 2/2:101x5 | 4"},
	})
}

func TestNewDoSendsAPeakBehindTheOthersOfItsLevel(t *testing.T) {
	three := "| 1/1:100x4+5p4 2/2:100x3 3/3:100x2+2p2 4/4:101x9 | 5"
	newBothWays(t, []oldCase{
		{three, "market 5 buy 3", "taken 5; fill 5 1 100 3", "| 1/1:100x1+5p4 2/2:100x3 3/3:100x2+2p2 4/4:101x9 | 6"},
		{three, "market 5 buy 4", "taken 5; fill 5 1 100 4", "| 2/2:100x3 3/3:100x2+2p2 1/1:100x4+1p4 4/4:101x9 | 6"},
		{three, "market 5 buy 5", "taken 5; fill 5 1 100 4; fill 5 2 100 1", "| 2/2:100x2 3/3:100x2+2p2 1/1:100x4+1p4 4/4:101x9 | 6"},
		{three, "market 5 buy 7", "taken 5; fill 5 1 100 4; fill 5 2 100 3", "| 3/3:100x2+2p2 1/1:100x4+1p4 4/4:101x9 | 6"},
		{three, "market 5 buy 8", "taken 5; fill 5 1 100 4; fill 5 2 100 3; fill 5 3 100 1", "| 3/3:100x1+2p2 1/1:100x4+1p4 4/4:101x9 | 6"},
		{three, "market 5 buy 9", "taken 5; fill 5 1 100 4; fill 5 2 100 3; fill 5 3 100 2", "| 1/1:100x4+1p4 3/3:100x2p2 4/4:101x9 | 6"},
		{three, "market 5 buy 13", "taken 5; fill 5 1 100 4; fill 5 2 100 3; fill 5 3 100 2; fill 5 1 100 4", "| 3/3:100x2p2 1/1:100x1p1 4/4:101x9 | 6"},
		{three, "limit 5 buy 100 15 all", "taken 5; fill 5 1 100 4; fill 5 2 100 3; fill 5 3 100 2; fill 5 1 100 4; fill 5 3 100 2", "| 1/1:100x1p1 4/4:101x9 | 6"},
		{three, "limit 5 buy 100 20 stay", "taken 5; fill 5 1 100 4; fill 5 2 100 3; fill 5 3 100 2; fill 5 1 100 4; fill 5 3 100 2; fill 5 1 100 1", "5/5:100x4 | 4/4:101x9 | 6"},
		// one that is not the first stays where it is
		{"| 2/2:100x3 1/1:100x4+5p4 | 3", "market 5 buy 3", "taken 3; fill 3 2 100 3", "| 1/1:100x4+5p4 | 4"},
		{"| 2/2:100x3 1/1:100x4+5p4 | 3", "market 5 buy 6", "taken 3; fill 3 2 100 3; fill 3 1 100 3", "| 1/1:100x1+5p4 | 4"},
	})
}

func TestNewDoOfAllAgainstWhatIsHidden(t *testing.T) {
	two := "| 1/1:100x4+5p4 2/2:101x1+2p3 3/3:103x50 | 4"
	newBothWays(t, []oldCase{
		{two, "limit 5 buy 100 9 all", "taken 4; fill 4 1 100 4; fill 4 1 100 4; fill 4 1 100 1", "| 2/2:101x1+2p3 3/3:103x50 | 5"},
		{two, "limit 5 buy 100 10 all", "taken 4; cut 4 10", "| 1/1:100x4+5p4 2/2:101x1+2p3 3/3:103x50 | 5"},
		{two, "limit 5 buy 101 12 all", "taken 4; fill 4 1 100 4; fill 4 1 100 4; fill 4 1 100 1; fill 4 2 101 1; fill 4 2 101 2", "| 3/3:103x50 | 5"},
		{two, "limit 5 buy 102 13 all", "taken 4; cut 4 13", "| 1/1:100x4+5p4 2/2:101x1+2p3 3/3:103x50 | 5"},
		{two, "limit 5 buy 99 1 all", "taken 4; cut 4 1", "| 1/1:100x4+5p4 2/2:101x1+2p3 3/3:103x50 | 5"},
		{"| 1/1:100x1+999p1 | 2", "limit 5 buy 99 1000 all", "taken 2; cut 2 1000", "| 1/1:100x1+999p1 | 3"},
		{"| | 2", "limit 5 buy 99 1000 all guard", "taken 2; cut 2 1000", "| | 3"},
	})
	out := impl.NewDo(newOf("| 1/1:100x1+999p1 | 2"), cmdOf("limit 5 buy 100 1000 all"))
	same(t, "how much is told", len(out.Events), 1001)
	alike(t, "then", out.New, newOf("| | 3"))
}

func TestNewDoCutsWhatIsShownAndHidden(t *testing.T) {
	newBothWays(t, []oldCase{
		{someNewText, "cancel 1 3", "cut 3 9", "1/2:100x7d 6/2:99x1p1g | 5/3:102x4+9p4d 2/1:103x6g 4/4:103x9 | 7"},
		{someNewText, "cancel 2 1", "cut 1 7", "3/1:100x5+4p6 6/2:99x1p1g | 5/3:102x4+9p4d 2/1:103x6g 4/4:103x9 | 7"},
		{someNewText, "cancel 2 6", "cut 6 1", "3/1:100x5+4p6 1/2:100x7d | 5/3:102x4+9p4d 2/1:103x6g 4/4:103x9 | 7"},
		{someNewText, "cancel 3 5", "cut 5 13", "3/1:100x5+4p6 1/2:100x7d 6/2:99x1p1g | 2/1:103x6g 4/4:103x9 | 7"},
		{someNewText, "cancel 4 4", "cut 4 9", "3/1:100x5+4p6 1/2:100x7d 6/2:99x1p1g | 5/3:102x4+9p4d 2/1:103x6g | 7"},
		{"1/9:5x1+999p1 | | 2", "cancel 9 1", "cut 1 1000", "| | 2"},
		{"1/9:5x1+1p1 | | 1000000", "cancel 9 1", "cut 1 2", "| | 1000000"},
		// one that has gone behind is found there
		{"2/2:5x1 1/9:5x1+1p1 3/9:5x1+1p1 | | 4", "cancel 9 3", "cut 3 2", "2/2:5x1 1/9:5x1+1p1 | | 4"},
	})
	for _, k := range []oldCase{
		{"| | 1", "roll", "", "| | 1"},
		{someNewText, "roll", "cut 1 7; cut 5 13", "3/1:100x5+4p6 6/2:99x1p1g | 2/1:103x6g 4/4:103x9 | 7"},
		{"4/1:100x5+1p5d 3/2:99x6d | 2/3:103x4+8p4dg 1/4:104x1d | 9", "roll", "cut 4 6; cut 3 6; cut 2 12; cut 1 1", "| | 9"},
		{"9/1:100x5+9p5d 2/2:100x6 8/2:100x7d | 5/3:103x4 1/4:103x1p1d 7/4:103x2 | 1000000", "roll", "cut 9 14; cut 8 7; cut 1 1", "2/2:100x6 | 5/3:103x4 7/4:103x2 | 1000000"},
		{"1/1:100x5d 2/1:99x5 3/1:98x5+2p5d 4/1:97x5+3p5 | | 5", "roll", "cut 1 5; cut 3 7", "2/1:99x5 4/1:97x5+3p5 | | 5"},
		{"4/1:100x5+1p5 3/2:99x6g | 2/3:103x4+8p4g | 9", "roll", "", "4/1:100x5+1p5 3/2:99x6g | 2/3:103x4+8p4g | 9"},
	} {
		doesNew(t, newOf(k.book), cmdOf(k.cmd), impl.NewOut{New: newOf(k.after), Events: eventsOf(k.events)})
	}
	// What was left, not what was asked for.
	b := impl.NewDo(newOf("| 1/1:100x4+6p4 | 2"), cmdOf("market 2 buy 7")).New
	doesNew(t, b, cmdOf("cancel 1 1"), impl.NewOut{New: newOf("| | 3"), Events: eventsOf("cut 1 3")})
}

func TestNewDoReplace(t *testing.T) {
	peak := "1/1:100x2+5p4 2/2:100x3 | 3/3:103x4 | 4"
	newBothWays(t, []oldCase{
		// less at its price: it keeps its place, and shows as one that rests anew
		{peak, "replace 1 1 100 6", "changed 1 100 6", "1/1:100x4+2p4 2/2:100x3 | 3/3:103x4 | 4"},
		{peak, "replace 1 1 100 5", "changed 1 100 5", "1/1:100x4+1p4 2/2:100x3 | 3/3:103x4 | 4"},
		{peak, "replace 1 1 100 4", "changed 1 100 4", "1/1:100x4p4 2/2:100x3 | 3/3:103x4 | 4"},
		{peak, "replace 1 1 100 3", "changed 1 100 3", "1/1:100x3p3 2/2:100x3 | 3/3:103x4 | 4"},
		{peak, "replace 1 1 100 2", "changed 1 100 2", "1/1:100x2p2 2/2:100x3 | 3/3:103x4 | 4"},
		{peak, "replace 1 1 100 1", "changed 1 100 1", "1/1:100x1p1 2/2:100x3 | 3/3:103x4 | 4"},
		{"1/1:100x2p4dg 2/2:100x3 | | 4", "replace 1 1 100 1", "changed 1 100 1", "1/1:100x1p1dg 2/2:100x3 | | 4"},
		{"2/2:100x3 1/1:100x2+998p1000 3/3:100x3 | | 4", "replace 1 1 100 999", "changed 1 100 999", "2/2:100x3 1/1:100x999p999 3/3:100x3 | | 4"},
		{peak, "replace 2 2 100 1", "changed 2 100 1", "1/1:100x2+5p4 2/2:100x1 | 3/3:103x4 | 4"},
		// as much, or more, at its price: it comes anew, with its Peak
		{peak, "replace 1 1 100 7", "changed 1 100 7", "2/2:100x3 1/1:100x4+3p4 | 3/3:103x4 | 4"},
		{peak, "replace 1 1 100 8", "changed 1 100 8", "2/2:100x3 1/1:100x4+4p4 | 3/3:103x4 | 4"},
		{peak, "replace 1 1 100 1000", "changed 1 100 1000", "2/2:100x3 1/1:100x4+996p4 | 3/3:103x4 | 4"},
		{peak, "replace 2 2 100 3", "changed 2 100 3", "1/1:100x2+5p4 2/2:100x3 | 3/3:103x4 | 4"},
		{peak, "replace 2 2 100 4", "changed 2 100 4", "1/1:100x2+5p4 2/2:100x4 | 3/3:103x4 | 4"},
		{"1/1:100x2p4 2/2:100x3 | | 4", "replace 1 1 100 2", "changed 1 100 2", "2/2:100x3 1/1:100x2p2 | | 4"},
		{"1/1:100x2p4 2/2:100x3 | | 4", "replace 1 1 100 3", "changed 1 100 3", "2/2:100x3 1/1:100x3p3 | | 4"},
		{"1/1:100x2p4 2/2:100x3 | | 4", "replace 1 1 100 9", "changed 1 100 9", "2/2:100x3 1/1:100x4+5p4 | | 4"},
		{"1/1:100x2+1p4dg | | 4", "replace 1 1 100 3", "changed 1 100 3", "1/1:100x3p3dg | | 4"},
		// another price, at which it rests
		{peak, "replace 1 1 99 3", "changed 1 99 3", "2/2:100x3 1/1:99x3p3 | 3/3:103x4 | 4"},
		{peak, "replace 1 1 99 4", "changed 1 99 4", "2/2:100x3 1/1:99x4p4 | 3/3:103x4 | 4"},
		{peak, "replace 1 1 102 7", "changed 1 102 7", "1/1:102x4+3p4 2/2:100x3 | 3/3:103x4 | 4"},
		{peak, "replace 1 1 101 20", "changed 1 101 20", "1/1:101x4+16p4 2/2:100x3 | 3/3:103x4 | 4"},
		{peak, "replace 2 2 99 3", "changed 2 99 3", "1/1:100x2+5p4 2/2:99x3 | 3/3:103x4 | 4"},
		// another price, at which it meets
		{peak, "replace 1 1 103 9", "changed 1 103 9; fill 1 3 103 4", "1/1:103x4+1p4 2/2:100x3 | | 4"},
		{peak, "replace 1 1 103 8", "changed 1 103 8; fill 1 3 103 4", "1/1:103x4p4 2/2:100x3 | | 4"},
		{peak, "replace 1 1 103 6", "changed 1 103 6; fill 1 3 103 4", "1/1:103x2p2 2/2:100x3 | | 4"},
		{peak, "replace 1 1 103 4", "changed 1 103 4; fill 1 3 103 4", "2/2:100x3 | | 4"},
		{peak, "replace 1 1 104 3", "changed 1 104 3; fill 1 3 103 3", "2/2:100x3 | 3/3:103x1 | 4"},
		{"1/1:100x2 | 3/3:103x1+2p1 | 4", "replace 1 1 103 9", "changed 1 103 9; fill 1 3 103 1; fill 1 3 103 1; fill 1 3 103 1", "1/1:103x6 | | 4"},
		{"1/1:100x2+2p2d | 3/3:103x1+2p1 4/4:103x1 | 5", "replace 1 1 103 2", "changed 1 103 2; fill 1 3 103 1; fill 1 4 103 1", "| 3/3:103x1+1p1 | 5"},
		// its Peak is no more than what is left of it then, and never grows again
		{"1/1:100x3p3 | | 4", "replace 1 1 99 9", "changed 1 99 9", "1/1:99x3+6p3 | | 4"},
	})
}

func TestNewDoWithAGuard(t *testing.T) {
	first, behind := "| 1/1:100x5 2/2:100x5 | 3", "| 2/2:100x5 1/1:100x5 | 3"
	newBothWays(t, []oldCase{
		// its own Owner first
		{first, "limit 1 buy 100 3 stay guard", "taken 3; cut 3 3", "| 1/1:100x5 2/2:100x5 | 4"},
		{first, "limit 1 buy 105 30 day guard", "taken 3; cut 3 30", "| 1/1:100x5 2/2:100x5 | 4"},
		{first, "limit 1 buy 100 3 now guard", "taken 3; cut 3 3", "| 1/1:100x5 2/2:100x5 | 4"},
		{first, "limit 1 buy 100 3 all guard", "taken 3; cut 3 3", "| 1/1:100x5 2/2:100x5 | 4"},
		{first, "limit 1 buy 100 8 stay peak 2 guard", "taken 3; cut 3 8", "| 1/1:100x5 2/2:100x5 | 4"},
		// behind others
		{behind, "limit 1 buy 100 8 stay guard", "taken 3; fill 3 2 100 5; cut 3 3", "| 1/1:100x5 | 4"},
		{behind, "limit 1 buy 100 8 day guard", "taken 3; fill 3 2 100 5; cut 3 3", "| 1/1:100x5 | 4"},
		{behind, "limit 1 buy 100 8 now guard", "taken 3; fill 3 2 100 5; cut 3 3", "| 1/1:100x5 | 4"},
		{behind, "limit 1 buy 100 8 all guard", "taken 3; cut 3 8", "| 2/2:100x5 1/1:100x5 | 4"},
		{behind, "limit 1 buy 100 6 all guard", "taken 3; cut 3 6", "| 2/2:100x5 1/1:100x5 | 4"},
		{behind, "limit 1 buy 100 8 stay peak 2 guard", "taken 3; fill 3 2 100 5; cut 3 3", "| 1/1:100x5 | 4"},
		// all of it goes ahead of that
		{behind, "limit 1 buy 100 5 stay guard", "taken 3; fill 3 2 100 5", "| 1/1:100x5 | 4"},
		{behind, "limit 1 buy 100 5 all guard", "taken 3; fill 3 2 100 5", "| 1/1:100x5 | 4"},
		{behind, "limit 1 buy 100 4 now guard", "taken 3; fill 3 2 100 4", "| 2/2:100x1 1/1:100x5 | 4"},
		// its own Owner stands where it may not meet
		{"| 2/2:100x5 1/1:101x5 | 3", "limit 1 buy 100 8 stay guard", "taken 3; fill 3 2 100 5", "3/1:100x3g | 1/1:101x5 | 4"},
		{"| 2/2:100x5 1/1:101x5 | 3", "limit 1 buy 101 8 stay guard", "taken 3; fill 3 2 100 5; cut 3 3", "| 1/1:101x5 | 4"},
		{"| 1/1:101x5 | 3", "limit 1 buy 100 8 day peak 3 guard", "taken 3", "3/1:100x3+5p3dg | 1/1:101x5 | 4"},
		{"1/1:100x5g | 2/2:101x9 | 3", "limit 1 buy 101 8 stay guard", "taken 3; fill 3 2 101 8", "1/1:100x5g | 2/2:101x1 | 4"},
		// other Owners with a guard are met
		{"| 1/1:100x5g 2/2:100x5g | 3", "limit 3 buy 100 8 stay guard", "taken 3; fill 3 1 100 5; fill 3 2 100 3", "| 2/2:100x2g | 4"},
		// without a guard it meets its own Owner, who may have one
		{"| 1/1:100x5g | 3", "limit 1 buy 100 8 stay", "taken 3; fill 3 1 100 5", "3/1:100x3 | | 4"},
		{"| 1/1:100x5g | 3", "limit 1 buy 100 5 all", "taken 3; fill 3 1 100 5", "| | 4"},
		{"| 1/1:100x5g | 3", "market 1 buy 8", "taken 3; fill 3 1 100 5; cut 3 3", "| | 4"},
		{first, "market 1 buy 8", "taken 3; fill 3 1 100 5; fill 3 2 100 3", "| 2/2:100x2 | 4"},
		// one ahead of its own Owner shows anew, behind that
		{"| 2/2:100x4+5p4 1/1:100x3 | 3", "limit 1 buy 100 6 stay guard", "taken 3; fill 3 2 100 4; cut 3 2", "| 1/1:100x3 2/2:100x4+1p4 | 4"},
		{"| 2/2:100x4+5p4 1/1:100x3 | 3", "limit 1 buy 100 5 all guard", "taken 3; cut 3 5", "| 2/2:100x4+5p4 1/1:100x3 | 4"},
		{"| 2/2:100x4+5p4 1/1:100x3 | 3", "limit 1 buy 100 4 all guard", "taken 3; fill 3 2 100 4", "| 1/1:100x3 2/2:100x4+1p4 | 4"},
		{"| 2/2:100x4+5p4 1/1:101x3 | 3", "limit 1 buy 101 9 all guard", "taken 3; fill 3 2 100 4; fill 3 2 100 4; fill 3 2 100 1", "| 1/1:101x3 | 4"},
		{"| 2/2:100x4+5p4 1/1:101x3 | 3", "limit 1 buy 101 10 all guard", "taken 3; cut 3 10", "| 2/2:100x4+5p4 1/1:101x3 | 4"},
		// its own Owner hides something
		{"| 1/1:100x1+5p1 2/2:100x9 | 3", "limit 1 buy 100 6 now guard", "taken 3; cut 3 6", "| 1/1:100x1+5p1 2/2:100x9 | 4"},
		// one that was changed, and comes anew
		{"1/1:100x5g | 2/2:102x3 3/1:102x4 | 4", "replace 1 1 102 9", "changed 1 102 9; fill 1 2 102 3; cut 1 6", "| 3/1:102x4 | 4"},
		{"1/1:100x5g | 2/2:102x3 3/1:102x4 | 4", "replace 1 1 102 3", "changed 1 102 3; fill 1 2 102 3", "| 3/1:102x4 | 4"},
		{"1/1:100x5g | 3/1:102x4 2/2:102x3 | 4", "replace 1 1 102 9", "changed 1 102 9; cut 1 9", "| 3/1:102x4 2/2:102x3 | 4"},
		{"1/1:100x2+5p2dg 4/2:100x1 | 3/1:102x4 | 5", "replace 1 1 103 9", "changed 1 103 9; cut 1 9", "4/2:100x1 | 3/1:102x4 | 5"},
		{"1/1:100x2+5p2dg 4/2:100x1 | 3/1:102x4 | 5", "replace 1 1 101 9", "changed 1 101 9", "1/1:101x2+7p2dg 4/2:100x1 | 3/1:102x4 | 5"},
		{"1/1:100x5 | 3/1:102x4g | 4", "replace 1 1 102 9", "changed 1 102 9; fill 1 3 102 4", "1/1:102x5 | | 4"},
		{"1/1:100x5g 2/2:100x1 | 3/1:102x4 | 4", "replace 1 1 100 9", "changed 1 100 9", "2/2:100x1 1/1:100x9g | 3/1:102x4 | 4"},
		{"1/1:100x5g 2/2:100x1 | 3/1:102x4 | 4", "replace 1 1 100 4", "changed 1 100 4", "1/1:100x4g 2/2:100x1 | 3/1:102x4 | 4"},
	})
	refusedNew(t, "a market order has no guard", newOf(first), impl.Cmd{Kind: impl.CmMarket, Owner: 1, Buy: true, Amount: 3, Guard: true}, impl.ErrForm)
}

// refusedNew: is it refused with that code, and nothing told beside it?
func refusedNew(t *testing.T, what string, b impl.New, c impl.Cmd, code int64) {
	t.Helper()
	before := copyOf(b)
	alike(t, what, impl.NewDo(b, c), impl.NewOut{Code: code})
	alike(t, what+": what was handed in", b, before)
}

func TestNewDoOfPost(t *testing.T) {
	for _, price := range []int64{1, 2, 98, 99, 100, 101, 102, 9999, 10000} {
		for _, life := range []int64{impl.LfStay, impl.LfDay} {
			for _, guard := range []bool{true, false} {
				for peak := range int64(3) {
					c := impl.Cmd{Kind: impl.CmLimit, Owner: 1, Buy: true, Price: price, Amount: 5, Life: life, Post: true, Peak: peak, Guard: guard}
					for _, text := range []string{"| 1/2:100x1 | 2", "| 1/2:100x5+5p5 3/3:101x1 | 9", "| 1/1:100x9g | 2", "1/1:50x9 | 2/1:100x9d | 3"} {
						what := text + ": " + textOfCmd(c)
						b := newOf(text)
						if price >= 100 {
							refusedNew(t, what, b, c, impl.ErrCross)
							refusedNew(t, what+", the sides turned round", mirroredNew(b), mirroredCmd(c), impl.ErrCross)
							continue
						}
						plain := c
						plain.Post = false
						alike(t, what, impl.NewDo(b, c), impl.NewDo(b, plain))
						same(t, what, impl.NewDo(b, c).Code, impl.OK)
						alike(t, what, impl.NewDo(b, c), newByRule(b, c))
						alike(t, what+", the sides turned round", impl.NewDo(mirroredNew(b), mirroredCmd(c)), newByRule(mirroredNew(b), mirroredCmd(c)))
					}
					// Its own side alone is no hindrance.
					for _, text := range []string{"| | 2", "1/2:100x1 | | 2"} {
						same(t, text, impl.NewDo(newOf(text), c).Code, impl.OK)
						same(t, text, len(impl.NewDo(newOf(text), c).Events), 1)
						same(t, text, impl.NewDo(mirroredNew(newOf(text)), mirroredCmd(c)).Code, impl.OK)
					}
				}
			}
		}
	}
}

func TestNewDoIsFullAheadOfCross(t *testing.T) {
	for _, each := range []int{1, 5, 24} {
		full, less := fullNew(12, 12, each), fullNew(12, 11, each)
		for _, text := range []string{"limit 1 buy 600 5 stay post", "limit 1 buy 10000 5 day post", "limit 1 sell 500 5 stay post peak 2", "limit 1 sell 1 5 day post guard"} {
			refusedNew(t, "full: "+text, full, cmdOf(text), impl.ErrFull)
			refusedNew(t, "not full: "+text, less, cmdOf(text), impl.ErrCross)
			last := copyOf(less)
			last.Next = impl.MaxTime
			refusedNew(t, "the last Next: "+text, last, cmdOf(text), impl.ErrFull)
			last.Next--
			refusedNew(t, "one ahead of the last Next: "+text, last, cmdOf(text), impl.ErrCross)
		}
	}
}

func TestNewDoOfABookThatIsNotRight(t *testing.T) {
	for what, b := range wrongNews() {
		for _, c := range append(baseCmds(), newCmds()...) {
			refusedNew(t, what+": "+textOfCmd(c), b, c, impl.ErrForm)
		}
		refusedNew(t, what+": the zero command", b, impl.Cmd{}, impl.ErrForm)
	}
	// No other fault is told ahead of it.
	full := fullNew(12, 12, 3)
	full.Bids[0].Orders[0].Id, full.Next = full.Bids[0].Orders[1].Id, impl.MaxTime
	for _, text := range []string{"limit 1 buy 1 1 stay", "market 1 buy 1", "cancel 9 99", "replace 9 99 1 1", "limit 1 buy 1000 1 stay post"} {
		refusedNew(t, "full, and not right: "+text, full, cmdOf(text), impl.ErrForm)
	}
}

func TestNewDoOfACommandThatIsNotRight(t *testing.T) {
	books := map[string]impl.New{"a new one": impl.NewNew(), "some": newOf(someNewText), "full": fullNew(12, 12, 4), "the last Next": {Next: impl.MaxTime}}
	for what, b := range books {
		for wrong, c := range wrongCmds() {
			refusedNew(t, what+": "+wrong, b, c, impl.ErrForm)
		}
		refusedNew(t, what+": the zero command", b, impl.Cmd{}, impl.ErrForm)
		refusedNew(t, what+": a peak above the amount", b, impl.Cmd{Kind: impl.CmLimit, Owner: 1, Price: 1, Amount: 1, Peak: 2}, impl.ErrForm)
		refusedNew(t, what+": post, and now", b, impl.Cmd{Kind: impl.CmLimit, Owner: 1, Buy: true, Price: 10000, Amount: 1, Life: impl.LfNow, Post: true}, impl.ErrForm)
		refusedNew(t, what+": a peak, and all", b, impl.Cmd{Kind: impl.CmLimit, Owner: 1, Buy: true, Price: 10000, Amount: 1, Life: impl.LfAll, Peak: 1}, impl.ErrForm)
		refusedNew(t, what+": a replace with a peak", b, impl.Cmd{Kind: impl.CmReplace, Owner: 1, Id: 3, Price: 100, Amount: 4, Peak: 1}, impl.ErrForm)
		refusedNew(t, what+": a cancel with a guard", b, impl.Cmd{Kind: impl.CmCancel, Owner: 1, Id: 99, Guard: true}, impl.ErrForm)
	}
}

// All that is right is known to a newer book.
func TestNewDoTakesAllRightCommands(t *testing.T) {
	for _, b := range []impl.New{impl.NewNew(), newOf(someNewText), fullNew(12, 12, 5)} {
		for _, c := range rightCmds() {
			out := impl.NewDo(b, c)
			alike(t, textOfCmd(c), out, newByRule(b, c))
			if out.Code == impl.ErrNew || out.Code == impl.ErrForm {
				t.Errorf("%s is refused with %d", textOfCmd(c), out.Code)
			}
		}
	}
}

func TestNewDoOfMaxRest(t *testing.T) {
	for bids := range impl.MaxRest + 1 {
		for _, each := range []int{1, 7, 24} {
			full, less := fullNew(bids, impl.MaxRest-bids, each), fullNew(max(bids-1, 0), min(impl.MaxRest-bids, impl.MaxRest-1), each)
			for text, rests := range takers() {
				for _, more := range []string{"", " guard", " post", " peak 2", " post peak 2 guard"} {
					if more != "" && (!rests && more != " guard" || strings.HasPrefix(text, "market")) {
						continue
					}
					c := cmdOf(text + more)
					what := fmt.Sprintf("%d bids, %d a level: %s", bids, each, textOfCmd(c))
					if rests {
						refusedNew(t, what, full, c, impl.ErrFull)
					} else {
						same(t, what, impl.NewDo(full, c).Code, impl.OK)
						sameAsModel(t, full, c)
					}
					sameAsModel(t, less, c)
					if code := impl.NewDo(less, c).Code; code != impl.OK && !(c.Post && code == impl.ErrCross) {
						t.Errorf("%s, one less: refused with %d", what, code)
					}
				}
			}
			// What brings no order needs no room.
			for _, text := range []string{"cancel 1 7", "replace 1 7 550 5", "replace 1 7 1 1000", "replace 1 7 10000 1000", "roll"} {
				same(t, text, impl.NewDo(full, cmdOf(text)).Code, impl.OK)
				sameAsModel(t, full, cmdOf(text))
			}
		}
	}
	refusedNew(t, "it would go whole", fullNew(12, 12, 4), cmdOf("limit 2 buy 600 1 stay"), impl.ErrFull)
	refusedNew(t, "it would be cut", fullNew(12, 12, 4), cmdOf("limit 1 buy 600 1 stay guard"), impl.ErrFull)
	refusedNew(t, "it would take one away", fullNew(12, 12, 4), cmdOf("limit 2 sell 499 11 stay"), impl.ErrFull)
}

func TestNewDoOfTheLastNext(t *testing.T) {
	for _, b := range []impl.New{newOf("| | 1000000"), newOf("3/1:100x50+9p50 | 999999/1:101x50g | 1000000"), fullNew(12, 12, 5)} {
		b.Next = impl.MaxTime
		for text := range takers() {
			refusedNew(t, text, b, cmdOf(text), impl.ErrFull)
		}
		for _, c := range newCmds() {
			refusedNew(t, textOfCmd(c), b, c, impl.ErrFull)
		}
	}
	out := impl.NewDo(newOf("3/1:100x50 | 5/1:101x50+3p50 | 999999"), cmdOf("market 1 buy 52"))
	alike(t, "the last Id", out, impl.NewOut{New: newOf("3/1:100x50 | 5/1:101x1p3 | 1000000"), Events: eventsOf("taken 999999; fill 999999 5 101 50; fill 999999 5 101 2")})
}

func TestNewDoOfNoSuchOrder(t *testing.T) {
	b := newOf(someNewText)
	owners := map[int64]int64{3: 1, 1: 2, 6: 2, 5: 3, 2: 1, 4: 4}
	for _, id := range []int64{1, 2, 3, 4, 5, 6, 7, 8, 100, 999999, impl.MaxTime} {
		for owner := int64(1); owner <= 9; owner++ {
			cancel := impl.Cmd{Kind: impl.CmCancel, Owner: owner, Id: id}
			replace := impl.Cmd{Kind: impl.CmReplace, Owner: owner, Id: id, Price: 100, Amount: 1}
			for _, c := range []impl.Cmd{cancel, replace} {
				if owners[id] == owner {
					same(t, textOfCmd(c), impl.NewDo(b, c).Code, impl.OK)
				} else {
					refusedNew(t, textOfCmd(c), b, c, impl.ErrNone)
				}
			}
		}
	}
	refusedNew(t, "none at all", impl.NewNew(), cmdOf("cancel 1 1"), impl.ErrNone)
	refusedNew(t, "none at all", impl.NewNew(), cmdOf("replace 1 1 1 1"), impl.ErrNone)
	refusedNew(t, "none, in a full one", fullNew(12, 12, 4), cmdOf("replace 1 99 1 1"), impl.ErrNone)
	// One that has gone, by each way that there is.
	gone := newOf("1/1:100x2+3p2dg | 2/1:103x1 | 3")
	for _, text := range []string{"cancel 1 1", "roll", "market 2 sell 5", "replace 1 1 103 9"} {
		then := impl.NewDo(gone, cmdOf(text)).New
		refusedNew(t, "gone by "+text, then, cmdOf("cancel 1 1"), impl.ErrNone)
		refusedNew(t, "gone by "+text, then, cmdOf("replace 1 1 100 1"), impl.ErrNone)
	}
	// What hides something is there as long as that is.
	then := impl.NewDo(gone, cmdOf("market 2 sell 4")).New
	doesNew(t, then, cmdOf("cancel 1 1"), impl.NewOut{New: newOf("| 2/1:103x1 | 4"), Events: eventsOf("cut 1 1")})
}

// newModel is the model of an older book with what a newer one knows besides.
type newModel struct {
	oldModel
}

func modelOfNew(b impl.New) *newModel {
	m := &newModel{}
	m.oldModel = *modelOfOld(impl.Old{Bids: restingIn(b.Bids), Asks: restingIn(b.Asks), Next: b.Next})
	return m
}

// meet tells whether a guard has ended it.
func (m *newModel) meet(o *impl.Order, buy bool, price int64) bool {
	for o.Amount > 0 && len(m.partners(buy, price)) > 0 {
		first := m.partners(buy, price)[0]
		if o.Guard && first.order.Owner == o.Owner {
			return true
		}
		amount := min(o.Amount, first.order.Amount)
		m.tell(impl.EvFill, o.Id, first.order.Id, first.order.Price, amount)
		o.Amount -= amount
		first.order.Amount -= amount
		if first.order.Amount > 0 {
			continue
		}
		if first.order.Hidden == 0 {
			m.drop(first)
			continue
		}
		if first.order.Hidden < first.order.Peak {
			first.order.Peak = first.order.Hidden
		}
		first.order.Amount = first.order.Peak
		first.order.Hidden -= first.order.Peak
		m.stamp++
		first.stamp = m.stamp
	}
	return false
}

// show lays what is left, which stands in Amount, out for all to see, or a part of it.
func show(o *impl.Order) {
	if o.Peak == 0 {
		return
	}
	if o.Peak > o.Amount {
		o.Peak = o.Amount
	}
	o.Hidden = o.Amount - o.Peak
	o.Amount = o.Peak
}

func (m *newModel) come(o impl.Order, buy bool, price int64, rests bool) {
	held := m.meet(&o, buy, price)
	if o.Amount == 0 {
		return
	}
	if held || !rests {
		m.tell(impl.EvCut, o.Id, 0, 0, o.Amount)
		return
	}
	show(&o)
	m.add(o, buy)
}

// goesWhole tries it on a model of its own.
func (m *newModel) goesWhole(o impl.Order, buy bool, price int64) bool {
	old := m.book()
	trial := modelOfNew(impl.New{Bids: levelled(old.Bids), Asks: levelled(old.Asks), Next: old.Next})
	trial.meet(&o, buy, price)
	return o.Amount == 0
}

func (m *newModel) take(c impl.Cmd) int64 {
	rests := c.Kind == impl.CmLimit && c.Life != impl.LfNow && c.Life != impl.LfAll
	if m.next == impl.MaxTime || rests && len(m.all) == impl.MaxRest {
		return impl.ErrFull
	}
	if c.Post && len(m.partners(c.Buy, c.Price)) > 0 {
		return impl.ErrCross
	}
	o := impl.Order{Id: m.next, Owner: c.Owner, Price: c.Price, Amount: c.Amount, Day: c.Life == impl.LfDay, Peak: c.Peak, Guard: c.Guard}
	m.next++
	m.tell(impl.EvTaken, o.Id, 0, 0, 0)
	if c.Life == impl.LfAll && !m.goesWhole(o, c.Buy, c.Price) {
		m.tell(impl.EvCut, o.Id, 0, 0, o.Amount)
		return impl.OK
	}
	m.come(o, c.Buy, c.Price, rests)
	return impl.OK
}

func (m *newModel) turn(c impl.Cmd) int64 {
	at := slices.IndexFunc(m.all, func(s *standing) bool { return s.order.Id == c.Id && s.order.Owner == c.Owner })
	if at < 0 {
		return impl.ErrNone
	}
	s := m.all[at]
	left := s.order.Amount + s.order.Hidden
	if c.Kind == impl.CmCancel {
		m.drop(s)
		m.tell(impl.EvCut, c.Id, 0, 0, left)
		return impl.OK
	}
	m.tell(impl.EvChanged, c.Id, 0, c.Price, c.Amount)
	o := s.order
	o.Price, o.Amount, o.Hidden = c.Price, c.Amount, 0
	if c.Price == s.order.Price && c.Amount < left {
		show(&o)
		s.order = o
		return impl.OK
	}
	m.drop(s)
	m.come(o, s.buy, o.Price, true)
	return impl.OK
}

func (m *newModel) roll() int64 {
	for _, s := range append(m.side(true), m.side(false)...) {
		if s.order.Day {
			m.drop(s)
			m.tell(impl.EvCut, s.order.Id, 0, 0, s.order.Amount+s.order.Hidden)
		}
	}
	return impl.OK
}

// newByRule is what the document says of a right book and a right command.
func newByRule(b impl.New, c impl.Cmd) impl.NewOut {
	m := modelOfNew(b)
	code := int64(impl.OK)
	switch c.Kind {
	case impl.CmLimit, impl.CmMarket:
		code = m.take(c)
	case impl.CmCancel, impl.CmReplace:
		code = m.turn(c)
	case impl.CmRoll:
		code = m.roll()
	}
	if code != impl.OK {
		return impl.NewOut{Code: code}
	}
	return impl.NewOut{New: newFromOld(m.book()), Events: m.events}
}

func sameLevels(a, b []impl.Level) bool {
	return slices.EqualFunc(a, b, func(x, y impl.Level) bool { return x.Price == y.Price && slices.Equal(x.Orders, y.Orders) })
}

func sameNew(a, b impl.New) bool {
	return sameLevels(a.Bids, b.Bids) && sameLevels(a.Asks, b.Asks) && a.Next == b.Next
}

// copyNew is copyOf of a book, for where very many are copied.
func copyNew(b impl.New) impl.New {
	return impl.New{Bids: copyLevels(b.Bids), Asks: copyLevels(b.Asks), Next: b.Next}
}

func copyLevels(l []impl.Level) []impl.Level {
	var out []impl.Level
	for _, level := range l {
		out = append(out, impl.Level{Price: level.Price, Orders: slices.Clone(level.Orders)})
	}
	return out
}

// sameAsModel does a command to a right book, and holds what is told against the model.
func sameAsModel(t *testing.T, b impl.New, c impl.Cmd) impl.NewOut {
	t.Helper()
	before := copyNew(b)
	got, want := impl.NewDo(b, c), newByRule(b, c)
	if got.Code != want.Code || !slices.Equal(got.Events, want.Events) || !sameNew(got.New, want.New) {
		alike(t, textOfNew(before)+": "+textOfCmd(c), got, want)
	}
	if !sameNew(b, before) {
		t.Errorf("%s: %s: it is changed then: %s", textOfNew(before), textOfCmd(c), textOfNew(b))
	}
	return got
}

// keepsNewPromises looks at one command done to a right book: the rule itself, and promises 11 and 12 as far as one command tells.
func keepsNewPromises(t *testing.T, b impl.New, c impl.Cmd) impl.NewOut {
	t.Helper()
	got := sameAsModel(t, b, c)
	if got.Code != impl.OK {
		return got
	}
	wrong := func(what string, more any) {
		t.Helper()
		t.Errorf("%s: %s: %s: %+v", textOfNew(b), textOfCmd(c), what, more)
	}
	if !impl.NewRight(got.New) || crossed(impl.Old{Bids: restingIn(got.New.Bids), Asks: restingIn(got.New.Asks)}) {
		wrong("not right then, or crossed", textOfNew(got.New))
	}
	guard := c.Guard || c.Kind == impl.CmReplace && impl.NewFind(b, c.Id).Guard
	for _, e := range got.Events {
		if !impl.EventRight(e) {
			wrong("told an event that is not right", e)
		}
		if e.Kind != impl.EvFill {
			continue
		}
		other := impl.NewFind(b, e.Other)
		if e.Price != other.Price {
			wrong("not at the price of the one that stood there", e)
		}
		if c.Post || guard && other.Owner == c.Owner {
			wrong("it must not meet that one", e)
		}
	}
	for _, o := range allOf(got.New) {
		if o.Peak > 0 && o.Amount > o.Peak || o.Peak == 0 && o.Hidden != 0 {
			wrong("more is shown than its peak, or hidden without one", o)
		}
	}
	return got
}

// showsAll: do best, rungs, queues, find and count tell what stands in the book?
func showsAll(t *testing.T, b impl.New) {
	t.Helper()
	what := textOfNew(b)
	for _, buy := range []bool{true, false} {
		levels := b.Asks
		if buy {
			levels = b.Bids
		}
		var best impl.Order
		var rungs []impl.Rung
		for i, level := range levels {
			if i == 0 {
				best = level.Orders[0]
			}
			rung := impl.Rung{Price: level.Price, Many: int64(len(level.Orders))}
			var ids []int64
			for _, o := range level.Orders {
				rung.Amount += o.Amount
				ids = append(ids, o.Id)
			}
			rungs = append(rungs, rung)
			alike(t, what+": who stands at a price", impl.NewQueue(b, buy, level.Price), ids)
		}
		alike(t, what+": the rungs", impl.NewLadder(b, buy), rungs)
		same(t, what+": the best", impl.NewBest(b, buy), best)
	}
	all := allOf(b)
	for _, o := range all {
		same(t, what+": found", impl.NewFind(b, o.Id), o)
	}
	same(t, what+": how many rest", impl.NewCount(b), int64(len(all)))
}

// account keeps of each order what is left of it, and the peak that was asked for, by what was told alone.
type account struct {
	left  map[int64]int64
	peaks map[int64]int64
}

func (a *account) hear(c impl.Cmd, events []impl.Event) {
	for _, e := range events {
		switch e.Kind {
		case impl.EvTaken:
			a.left[e.Id], a.peaks[e.Id] = c.Amount, c.Peak
		case impl.EvFill:
			a.left[e.Id] -= e.Amount
			a.left[e.Other] -= e.Amount
		case impl.EvCut:
			a.left[e.Id] -= e.Amount
		case impl.EvChanged:
			a.left[e.Id] = e.Amount
		}
	}
}

// check: promise 12.
func (a *account) check(t *testing.T, what string, b impl.New) {
	t.Helper()
	there := map[int64]bool{}
	for _, o := range allOf(b) {
		there[o.Id] = true
		if a.left[o.Id] != o.Amount+o.Hidden {
			t.Errorf("%s: of %+v there are %d left", what, o, a.left[o.Id])
		}
		if a.peaks[o.Id] == 0 && (o.Peak != 0 || o.Hidden != 0) || a.peaks[o.Id] > 0 && (o.Amount > a.peaks[o.Id] || o.Peak > a.peaks[o.Id] || o.Peak == 0) {
			t.Errorf("%s: of %+v no more than %d was to be shown", what, o, a.peaks[o.Id])
		}
	}
	for id, left := range a.left {
		if !there[id] && left != 0 {
			t.Errorf("%s: %d has gone, with %d left", what, id, left)
		}
	}
}

// Promises 11 and 12, over long runs of commands of every Kind and Life, with and without Post, Peak and Guard.
func TestNewKeepsItsPromisesInLongRuns(t *testing.T) {
	for seed := range int64(60) {
		random := rand.New(rand.NewSource(seed))
		b := impl.NewNew()
		if seed%4 == 3 {
			b.Next = impl.MaxTime - 150
		}
		known := account{left: map[int64]int64{}, peaks: map[int64]int64{}}
		spread, most := random.Int63n(12)+1, random.Int63n(60)+1
		codes := map[int64]int{}
		for range 300 {
			c := someNewCmd(random, b, spread, most)
			out := keepsNewPromises(t, b, c)
			codes[out.Code]++
			if out.Code == impl.OK {
				known.hear(c, out.Events)
				known.check(t, textOfNew(b)+": "+textOfCmd(c), out.New)
				showsAll(t, out.New)
				b = out.New
			}
		}
		if codes[impl.OK] == 0 || codes[impl.ErrNone] == 0 || codes[impl.ErrCross] == 0 || seed%4 == 3 && codes[impl.ErrFull] == 0 {
			t.Errorf("a run of little worth: %v", codes)
		}
	}
}

// someNewCmd is one for an older book, often with what only a newer one knows.
func someNewCmd(random *rand.Rand, b impl.New, spread int64, most int64) impl.Cmd {
	c := someOldCmd(random, impl.Old{Bids: restingIn(b.Bids), Asks: restingIn(b.Asks), Next: b.Next}, spread, most)
	if c.Kind != impl.CmLimit {
		return c
	}
	c.Guard = random.Intn(3) == 0
	if c.Life == impl.LfStay || c.Life == impl.LfDay {
		c.Post = random.Intn(6) == 0
		if random.Intn(2) == 0 {
			c.Peak = random.Int63n(min(c.Amount, 1+random.Int63n(most))) + 1
		}
	}
	return c
}

// A book that is mostly full.
func TestNewKeepsItsPromisesWhenItIsFull(t *testing.T) {
	for seed := range int64(10) {
		random := rand.New(rand.NewSource(seed))
		b := fullNew(int(seed)+7, impl.MaxRest-7-int(seed), int(seed)%5+1)
		full := 0
		for range 200 {
			c := someNewCmd(random, b, 10, 30)
			if c.Price != 0 {
				c.Price = 480 + random.Int63n(140)
			}
			out := keepsNewPromises(t, b, c)
			if out.Code == impl.ErrFull {
				full++
			}
			if out.Code == impl.OK {
				b = out.New
			}
			for range impl.MaxRest {
				if len(allOf(b)) < impl.MaxRest-2 {
					b = impl.NewDo(b, impl.Cmd{Kind: impl.CmLimit, Owner: 2, Buy: random.Intn(2) == 0, Price: 550, Amount: 9, Peak: random.Int63n(4)}).New
				}
			}
		}
		if full == 0 {
			t.Errorf("it was never full")
		}
	}
}

// smallQueues: up to three orders of few amounts, some with a peak or a guard, at one price or at two.
func smallQueues() [][]impl.Order {
	kinds := restingOf("1/1:3x1 1/1:3x2 1/2:3x1+1p1 1/1:3x1+2p2d 1/2:3x2p3g 1/1:3x2+1p2g")
	out := [][]impl.Order{nil}
	for _, first := range kinds {
		out = append(out, []impl.Order{first})
		for _, second := range kinds {
			for price := int64(3); price <= 4; price++ {
				second.Id, second.Price = 2, price
				out = append(out, []impl.Order{first, second})
				third := restingOf("3/1:4x1p1")[0]
				out = append(out, []impl.Order{first, second, third})
			}
		}
	}
	return out
}

func smallNewCmds() []impl.Cmd {
	out := []impl.Cmd{rollOf(), cmdOf("cancel 1 1"), cmdOf("cancel 2 1"), cmdOf("cancel 1 2"), cmdOf("cancel 2 2"), cmdOf("cancel 1 3"), cmdOf("cancel 1 4"), cmdOf("cancel 2 5"), cmdOf("cancel 1 8")}
	for amount := int64(1); amount <= 8; amount++ {
		out = append(out, impl.Cmd{Kind: impl.CmMarket, Owner: 1, Buy: true, Amount: amount}, impl.Cmd{Kind: impl.CmMarket, Owner: 2, Amount: amount})
		for price := int64(2); price <= 4; price++ {
			for n := range int64(24) {
				c := impl.Cmd{Kind: impl.CmLimit, Owner: n%3 + 1, Buy: true, Price: price, Amount: amount, Life: n / 3 % 4, Guard: n < 12}
				out = append(out, c)
				if c.Life != impl.LfStay && c.Life != impl.LfDay {
					continue
				}
				c.Peak = min(n%3+1, amount)
				out = append(out, c)
				c.Post = true
				out = append(out, c)
			}
			for n := range int64(10) {
				out = append(out, impl.Cmd{Kind: impl.CmReplace, Owner: n%2 + 1, Id: n/2 + 1, Price: price, Amount: amount})
			}
		}
	}
	return out
}

// All small books and all small commands.
func TestNewKeepsItsPromisesInTheSmall(t *testing.T) {
	cmds := smallNewCmds()
	for _, asks := range smallQueues() {
		for _, bids := range [][]impl.Order{nil, restingOf("4/1:2x1+3p2g 5/2:2x2p2")} {
			b := impl.New{Bids: levelled(bids), Asks: levelled(copyOf(asks)), Next: 9}
			if !impl.NewRight(b) {
				t.Errorf("it should be right: %s", textOfNew(b))
				continue
			}
			for _, c := range cmds {
				keepsNewPromises(t, b, c)
			}
			turned := mirroredNew(b)
			for i := 0; i < len(cmds); i += 7 {
				keepsNewPromises(t, turned, mirroredCmd(cmds[i]))
			}
		}
	}
}

// Without what is new it does what an older book does.
func TestNewDoIsOldDoOfOldOnes(t *testing.T) {
	cmds := smallCmds()
	for _, bids := range smallSides(true) {
		for _, asks := range smallSides(false) {
			old := impl.Old{Bids: copyOf(bids), Asks: copyOf(asks), Next: 9}
			for i := range old.Asks {
				old.Asks[i].Id += 4
			}
			if !impl.OldRight(old) {
				same(t, textOfOld(old), impl.NewRight(newFromOld(old)), false)
				continue
			}
			for _, c := range cmds {
				want, got := impl.OldDo(old, c), impl.NewDo(newFromOld(old), c)
				if got.Code != want.Code || !slices.Equal(got.Events, want.Events) || !sameNew(got.New, newFromOld(want.Old)) {
					alike(t, textOfOld(old)+": "+textOfCmd(c), got, impl.NewOut{New: newFromOld(want.Old), Events: want.Events, Code: want.Code})
				}
			}
		}
	}
}

// Promise 11: wherever it stands, one that is to meet nobody meets nobody, and one with a guard none of its own Owner.
func TestNewPostMeetsNobodyAndGuardNoneOfItsOwn(t *testing.T) {
	for _, buy := range []bool{true, false} {
		for own := range 6 {
			b := impl.NewNew()
			for n := range 6 {
				owner := int64(2)
				if n == own {
					owner = 1
				}
				b = impl.NewDo(b, impl.Cmd{Kind: impl.CmLimit, Owner: owner, Buy: !buy, Price: 100, Amount: 4, Peak: int64(n % 3)}).New
			}
			for amount := int64(1); amount <= 30; amount++ {
				for life := range int64(4) {
					c := impl.Cmd{Kind: impl.CmLimit, Owner: 1, Buy: buy, Price: 100, Amount: amount, Life: life, Guard: true}
					out := keepsNewPromises(t, b, c)
					var met int64
					for _, e := range out.Events {
						if e.Kind == impl.EvFill {
							met += e.Amount
							same(t, "whom it met", impl.NewFind(b, e.Other).Owner, 2)
						}
					}
					for _, o := range allOf(out.New) {
						if o.Id == b.Next {
							t.Errorf("%s: what its guard held back rests: %+v", textOfCmd(c), o)
						}
					}
					if life == impl.LfAll && met != 0 && met != amount {
						t.Errorf("%s: neither all nor nothing: %d", textOfCmd(c), met)
					}
					if rest := amount - met; rest > 0 {
						same(t, "the last that is told", out.Events[len(out.Events)-1], impl.Event{Kind: impl.EvCut, Id: b.Next, Amount: rest})
					}
					if life == impl.LfStay || life == impl.LfDay {
						c.Post = true
						refusedNew(t, textOfCmd(c), b, c, impl.ErrCross)
						c.Guard, c.Owner = false, 3
						refusedNew(t, textOfCmd(c), b, c, impl.ErrCross)
					}
				}
			}
		}
	}
}

// Promise 12: one order with a peak, met bit by bit until nothing is left.
func TestNewShowsNoMoreThanThePeak(t *testing.T) {
	for amount := int64(1); amount <= 14; amount++ {
		for peak := range amount + 1 {
			for bite := int64(1); bite <= amount+1; bite++ {
				b := impl.NewDo(impl.NewNew(), impl.Cmd{Kind: impl.CmLimit, Owner: 1, Price: 100, Amount: amount, Peak: peak}).New
				left := amount
				for range amount {
					o := impl.NewFind(b, 1)
					same(t, "what is left", o.Amount+o.Hidden, left)
					if peak > 0 && o.Amount > peak || peak == 0 && o.Hidden > 0 || left > 0 && o.Amount == 0 {
						t.Errorf("a peak of %d of %d, bitten by %d: %+v", peak, amount, bite, o)
					}
					b = keepsNewPromises(t, b, impl.Cmd{Kind: impl.CmMarket, Owner: 2, Buy: true, Amount: bite}).New
					left = max(0, left-bite)
				}
				same(t, "it has gone", impl.NewCount(b), 0)
			}
		}
	}
}

func TestNewAnswersOfABookThatIsNotRight(t *testing.T) {
	for what, b := range wrongNews() {
		before := copyOf(b)
		for _, buy := range []bool{true, false} {
			same(t, what+": best", impl.NewBest(b, buy), impl.Order{})
			alike(t, what+": ladder", impl.NewLadder(b, buy), nil)
			for _, price := range []int64{0, 1, 4, 5, 6, 7, 99, 100, 102, 103, 500, 600, 9996, 10000} {
				alike(t, what+": queue", impl.NewQueue(b, buy, price), nil)
			}
		}
		for _, id := range []int64{0, 1, 2, 3, 4, 5, 6, 7} {
			same(t, what+": find", impl.NewFind(b, id), impl.Order{})
		}
		same(t, what+": count", impl.NewCount(b), 0)
		alike(t, what+": what was handed in", b, before)
	}
}

func TestNewBest(t *testing.T) {
	b := newOf(someNewText)
	same(t, "bid", impl.NewBest(b, true), impl.Order{Id: 3, Owner: 1, Price: 100, Amount: 5, Hidden: 4, Peak: 6})
	same(t, "ask", impl.NewBest(b, false), impl.Order{Id: 5, Owner: 3, Price: 102, Amount: 4, Hidden: 9, Peak: 4, Day: true})
	same(t, "no bid", impl.NewBest(newOf("| 1/1:5x1g | 2"), true), impl.Order{})
	same(t, "no ask", impl.NewBest(newOf("1/1:5x1g | | 2"), false), impl.Order{})
	same(t, "with a guard", impl.NewBest(newOf("1/1:5x1g | | 2"), true), impl.Order{Id: 1, Owner: 1, Price: 5, Amount: 1, Guard: true})
	for _, buy := range []bool{true, false} {
		same(t, "none", impl.NewBest(impl.NewNew(), buy), impl.Order{})
	}
	same(t, "the first of a price, not the least Id", impl.NewBest(newOf("9/1:5x1 1/1:5x2 | | 10"), true).Id, 9)
}

func TestNewLadder(t *testing.T) {
	b := newOf(someNewText)
	alike(t, "bids", impl.NewLadder(b, true), []impl.Rung{{Price: 100, Amount: 12, Many: 2}, {Price: 99, Amount: 1, Many: 1}})
	alike(t, "asks", impl.NewLadder(b, false), []impl.Rung{{Price: 102, Amount: 4, Many: 1}, {Price: 103, Amount: 15, Many: 2}})
	alike(t, "what is shown alone", impl.NewLadder(newOf("| 1/1:5x1+999p1 2/1:5x2+3p7 3/1:5x4 | 4"), false), []impl.Rung{{Price: 5, Amount: 7, Many: 3}})
	alike(t, "no bids", impl.NewLadder(newOf("| 1/1:5x1 | 2"), true), nil)
	alike(t, "no asks", impl.NewLadder(newOf("1/1:5x1 | | 2"), false), nil)
	alike(t, "as much as there can be", impl.NewLadder(impl.New{Bids: levelled(manyOf(24, impl.MaxAmount)), Next: 25}, true), []impl.Rung{{Price: 10000, Amount: 24000, Many: 24}})
	for _, b := range rightNews() {
		showsAll(t, b)
		for _, buy := range []bool{true, false} {
			fresh(t, "ladder", impl.NewLadder(b, buy), b)
		}
	}
}

// manyOf are that many orders at the greatest price.
func manyOf(many int64, amount int64) []impl.Order {
	var out []impl.Order
	for id := int64(1); id <= many; id++ {
		out = append(out, impl.Order{Id: id, Owner: 1, Price: impl.MaxPrice, Amount: amount})
	}
	return out
}

func TestNewFind(t *testing.T) {
	b := newOf(someNewText)
	same(t, "a bid", impl.NewFind(b, 6), impl.Order{Id: 6, Owner: 2, Price: 99, Amount: 1, Peak: 1, Guard: true})
	same(t, "an ask behind another", impl.NewFind(b, 4), impl.Order{Id: 4, Owner: 4, Price: 103, Amount: 9})
	for _, id := range []int64{math.MinInt64, -1, 0, 7, 8, impl.MaxTime, math.MaxInt64} {
		same(t, fmt.Sprintf("Id %d", id), impl.NewFind(b, id), impl.Order{})
		same(t, fmt.Sprintf("Id %d of none", id), impl.NewFind(impl.NewNew(), id), impl.Order{})
	}
	same(t, "one that has gone", impl.NewFind(newOf("1/1:5x1 | 4/1:6x1 | 9"), 3), impl.Order{})
}

func TestNewCount(t *testing.T) {
	same(t, "none", impl.NewCount(impl.NewNew()), 0)
	same(t, "some", impl.NewCount(newOf(someNewText)), 6)
	for bids := range impl.MaxRest + 1 {
		for asks := range impl.MaxRest + 1 - bids {
			for _, each := range []int{1, 3, 24} {
				same(t, "both", impl.NewCount(fullNew(bids, asks, each)), int64(bids+asks))
			}
		}
	}
}

func TestNewQueue(t *testing.T) {
	b := newOf("3/1:100x5+4p6 1/2:100x7d 7/2:100x1p1g 6/2:99x1 | 5/3:102x4 2/1:103x6g 4/4:103x9 | 8")
	alike(t, "bids at 100", impl.NewQueue(b, true, 100), []int64{3, 1, 7})
	alike(t, "bids at 99", impl.NewQueue(b, true, 99), []int64{6})
	alike(t, "asks at 102", impl.NewQueue(b, false, 102), []int64{5})
	alike(t, "asks at 103", impl.NewQueue(b, false, 103), []int64{2, 4})
	for _, price := range []int64{math.MinInt64, -1, 0, 1, 98, 101, 104, 10000, 10001, math.MaxInt64} {
		alike(t, fmt.Sprintf("bids at %d", price), impl.NewQueue(b, true, price), nil)
		alike(t, fmt.Sprintf("asks at %d", price), impl.NewQueue(b, false, price), nil)
	}
	for _, price := range []int64{102, 103} {
		alike(t, "the other side's price", impl.NewQueue(b, true, price), nil)
	}
	for _, price := range []int64{99, 100} {
		alike(t, "the other side's price", impl.NewQueue(b, false, price), nil)
	}
	for _, buy := range []bool{true, false} {
		alike(t, "none", impl.NewQueue(impl.NewNew(), buy, 100), nil)
	}
}

// Lists with room behind them, and all levels cut from one list: nothing is written there, and nothing of it is told.
func TestNewDoLeavesWhatStandsBehindAList(t *testing.T) {
	for _, k := range []string{
		"limit 5 buy 100 4 stay", "limit 5 sell 103 4 day peak 2", "limit 5 buy 104 40 stay peak 3", "limit 5 sell 1 40 day guard", "limit 5 buy 103 2 all", "market 5 buy 7", "market 5 sell 7",
		"market 5 buy 100", "market 5 sell 9", "cancel 1 3", "cancel 3 5", "replace 1 3 100 2", "replace 1 3 100 8", "replace 1 3 100 9", "replace 1 3 103 30", "replace 4 4 1 30", "replace 4 4 105 1",
		"limit 5 buy 101 4 stay post", "limit 5 buy 1 4 stay", "limit 1 buy 103 50 now guard", "roll",
	} {
		orders := append(make([]impl.Order, 0, 20), restingOf("3/1:100x5+4p6 1/2:100x7d 6/2:99x1p1g 5/3:102x4+9p4d 2/1:103x6g 4/4:103x9")...)
		levels := append(make([]impl.Level, 0, 9), impl.Level{Price: 100, Orders: orders[:2]}, impl.Level{Price: 99, Orders: orders[2:3]}, impl.Level{Price: 102, Orders: orders[3:4]}, impl.Level{Price: 103, Orders: orders[4:]})
		b := impl.New{Bids: levels[:2], Asks: levels[2:], Next: 7}
		ordersBefore, levelsBefore := copyOf(orders[:20]), copyOf(levels[:9])
		out := impl.NewDo(b, cmdOf(k))
		same(t, k, out.Code, impl.OK)
		alike(t, k, out, newByRule(newOf(someNewText), cmdOf(k)))
		alike(t, k+": what was handed in", orders[:20], ordersBefore)
		alike(t, k+": what was handed in", levels[:9], levelsBefore)
		fresh(t, k, out, b)
		// What was told does not change by what is done to it, nor does one of its lists by what is done to the others.
		again := copyOf(out)
		impl.NewDo(out.New, cmdOf("market 6 buy 9"))
		impl.NewDo(out.New, cmdOf("limit 6 sell 1 1000 stay"))
		for _, side := range [][]impl.Level{out.New.Bids, out.New.Asks} {
			_ = append(side, impl.Level{Price: 99})
			for _, level := range side {
				_ = append(level.Orders, impl.Order{Id: 99})
			}
		}
		alike(t, k+": told", out, again)
	}
	empty := make([]impl.Level, 0, 8)
	out := impl.NewDo(impl.New{Bids: empty, Asks: empty, Next: 1}, cmdOf("limit 1 buy 5 5 stay"))
	alike(t, "room alone", out, impl.NewOut{New: newOf("1/1:5x5 | | 2"), Events: eventsOf("taken 1")})
	alike(t, "room alone: what was handed in", empty[:8], make([]impl.Level, 8))
}

// What stands behind a list is not the book's, and is there for others.
func TestNewCallsWriteNothingBehindAList(t *testing.T) {
	behind := restingOf("91/1:1x1 92/1:2x2 93/1:3x3 94/1:4x4 95/1:5x5")
	laid := func() impl.New {
		b := newOf(someNewText)
		for _, side := range [][]impl.Level{b.Bids, b.Asks} {
			for i := range side {
				side[i].Orders = append(side[i].Orders, behind...)
			}
		}
		b.Bids = append(b.Bids, impl.Level{Price: 7, Orders: copyOf(behind)})
		b.Asks = append(b.Asks, impl.Level{Price: 8, Orders: copyOf(behind)})
		return b
	}
	whole := laid()
	b := impl.New{Bids: slices.Clone(whole.Bids)[:2], Asks: slices.Clone(whole.Asks)[:2], Next: 7}
	for _, side := range [][]impl.Level{b.Bids, b.Asks} {
		for i := range side {
			side[i].Orders = side[i].Orders[:len(side[i].Orders)-len(behind)]
		}
	}
	same(t, "is it right?", impl.NewRight(b), true)
	calls := map[string]func(){
		"NewRight":  func() { impl.NewRight(b) },
		"NewBest":   func() { impl.NewBest(b, true) },
		"NewLadder": func() { fresh(t, "NewLadder", impl.NewLadder(b, false), b) },
		"NewFind":   func() { impl.NewFind(b, 4) },
		"NewCount":  func() { impl.NewCount(b) },
		"NewQueue":  func() { fresh(t, "NewQueue", impl.NewQueue(b, true, 100), b) },
	}
	for _, c := range append(smallNewCmds(), baseCmds()...) {
		calls["NewDo: "+textOfCmd(c)] = func() { impl.NewDo(b, c) }
	}
	bids, asks := b.Bids[:3], b.Asks[:3]
	for what, call := range calls {
		call()
		if !sameLevels(whole.Bids, laid().Bids) || !sameLevels(whole.Asks, laid().Asks) || bids[2].Price != 7 || asks[2].Price != 8 {
			t.Fatalf("%s: it wrote behind a list", what)
		}
	}
}

// The same commands tell the same, however often they are asked for.
func TestNewDoKeepsNothing(t *testing.T) {
	b := newOf(someNewText)
	c := cmdOf("limit 5 buy 103 22 stay peak 2 guard")
	first := copyOf(impl.NewDo(b, c))
	for range 3 {
		impl.NewDo(b, cmdOf("market 1 sell 9"))
		impl.NewDo(impl.NewNew(), c)
		impl.NewDo(b, impl.Cmd{})
		alike(t, "once more", impl.NewDo(b, c), first)
	}
}
