package tests

import (
	"fmt"
	"math"
	"math/rand"
	"slices"
	"strings"
	"testing"

	"loop.example/g00446/impl"
)

// tapeOf reads trades, each written price*amount, with a blank between.
func tapeOf(text string) []impl.Trade {
	var out []impl.Trade
	for _, word := range strings.Fields(text) {
		var trade impl.Trade
		if _, err := fmt.Sscanf(word, "%d*%d", &trade.Price, &trade.Amount); err != nil {
			panic("no trades: " + text)
		}
		out = append(out, trade)
	}
	return out
}

// barsWritten reads bars, each written open/high/low/close*amount, with a blank between.
func barsWritten(text string) []impl.Bar {
	var out []impl.Bar
	for _, word := range strings.Fields(text) {
		var b impl.Bar
		if _, err := fmt.Sscanf(word, "%d/%d/%d/%d*%d", &b.Open, &b.High, &b.Low, &b.Close, &b.Amount); err != nil {
			panic("no bars: " + text)
		}
		out = append(out, b)
	}
	return out
}

func pricesIn(l []impl.Trade) []int64 {
	var out []int64
	for _, trade := range l {
		out = append(out, trade.Price)
	}
	return out
}

func volumeByRule(l []impl.Trade) int64 {
	sum := int64(0)
	for _, trade := range l {
		sum += trade.Amount
	}
	return sum
}

func turnoverByRule(l []impl.Trade) int64 {
	sum := int64(0)
	for _, trade := range l {
		for range trade.Amount {
			sum += trade.Price
		}
	}
	return sum
}

// highByRule and lowByRule take the last one and the first one of the prices put in order.
func highByRule(l []impl.Trade) int64 {
	if len(l) == 0 {
		return 0
	}
	return slices.Sorted(slices.Values(pricesIn(l)))[len(l)-1]
}

func lowByRule(l []impl.Trade) int64 {
	if len(l) == 0 {
		return 0
	}
	return slices.Sorted(slices.Values(pricesIn(l)))[0]
}

func barsByRule(l []impl.Trade, many int64) []impl.Bar {
	var out []impl.Bar
	for from := 0; from < len(l); from += int(many) {
		own := l[from:min(from+int(many), len(l))]
		out = append(out, impl.Bar{Open: own[0].Price, High: highByRule(own), Low: lowByRule(own), Close: own[len(own)-1].Price, Amount: volumeByRule(own)})
	}
	return out
}

// tellsTape: does each call tell of right trades what the document says, with nothing that was handed in changed or shared?
func tellsTape(t *testing.T, what string, l []impl.Trade) {
	t.Helper()
	before := slices.Clone(l)
	volume, turnover, high, low := impl.VolumeOf(l), impl.TurnoverOf(l), impl.HighOf(l), impl.LowOf(l)
	same(t, what+": the volume", volume, volumeByRule(l))
	same(t, what+": the turnover", turnover, turnoverByRule(l))
	same(t, what+": the greatest price", high, highByRule(l))
	same(t, what+": the least price", low, lowByRule(l))
	if turnover < low*volume || turnover > high*volume {
		t.Errorf("%s: the turnover %d of a volume %d from %d to %d", what, turnover, volume, low, high)
	}
	for many := int64(1); many <= 100; many++ {
		bars := impl.BarsOf(l, many)
		alike(t, fmt.Sprintf("%s: bars of %d", what, many), bars, barsByRule(l, many))
		barsOfAll(t, fmt.Sprintf("%s: bars of %d", what, many), l, bars, many)
		fresh(t, what, bars, l)
	}
	same(t, what+": is it as it was?", slices.Equal(l, before), true)
}

// barsOfAll: promise 19, by what the calls tell of the same trades.
func barsOfAll(t *testing.T, what string, l []impl.Trade, bars []impl.Bar, many int64) {
	t.Helper()
	if want := (len(l) + int(many) - 1) / int(many); len(bars) != want {
		t.Fatalf("%s: got %d of them, want %d", what, len(bars), want)
	}
	volume, high, low := int64(0), int64(0), int64(0)
	for i, b := range bars {
		own := l[i*int(many) : min((i+1)*int(many), len(l))]
		if b.Low > b.High || b.Open < b.Low || b.Open > b.High || b.Close < b.Low || b.Close > b.High {
			t.Errorf("%s: not from least to greatest: %+v", what, b)
		}
		if b.High > impl.HighOf(l) || b.Low < impl.LowOf(l) {
			t.Errorf("%s: above the greatest or below the least of all: %+v", what, b)
		}
		if b.High != impl.HighOf(own) || b.Low != impl.LowOf(own) || b.Amount != impl.VolumeOf(own) {
			t.Errorf("%s: not told of its own trades %v: %+v", what, own, b)
		}
		volume += b.Amount
		high = max(high, b.High)
		if i == 0 || b.Low < low {
			low = b.Low
		}
	}
	same(t, what+": all amounts", volume, impl.VolumeOf(l))
	same(t, what+": the greatest of all", high, impl.HighOf(l))
	same(t, what+": the least of all", low, impl.LowOf(l))
}

// tellsNoTape: are these trades told of by no call?
func tellsNoTape(t *testing.T, what string, l []impl.Trade) {
	t.Helper()
	before := slices.Clone(l)
	same(t, what+": the volume", impl.VolumeOf(l), 0)
	same(t, what+": the turnover", impl.TurnoverOf(l), 0)
	same(t, what+": the greatest price", impl.HighOf(l), 0)
	same(t, what+": the least price", impl.LowOf(l), 0)
	for _, many := range append(strangeNumbers(), 1, 2, 50, 99, 100, 101) {
		alike(t, fmt.Sprint(what, ": bars of ", many), impl.BarsOf(l, many), nil)
	}
	same(t, what+": is it as it was?", slices.Equal(l, before), true)
}

// someTrades has prices and amounts up to some most of each, which the limits leave.
func someTrades(random *rand.Rand, many int) []impl.Trade {
	var out []impl.Trade
	spread, most := random.Int63n(impl.MaxPrice)+1, random.Int63n(impl.MaxAmount)+1
	for range many {
		out = append(out, impl.Trade{Price: random.Int63n(spread) + 1, Amount: random.Int63n(most) + 1})
	}
	return out
}

func manyTrades(many int, trade impl.Trade) []impl.Trade {
	return slices.Repeat([]impl.Trade{trade}, many)
}

func rightTapes() map[string][]impl.Trade {
	rising, falling := make([]impl.Trade, impl.MaxList), make([]impl.Trade, impl.MaxList)
	for i := range int64(impl.MaxList) {
		rising[i] = impl.Trade{Price: i + 1, Amount: 2*i + 1}
		falling[i] = impl.Trade{Price: impl.MaxPrice - 7*i, Amount: impl.MaxAmount - i}
	}
	return map[string][]impl.Trade{
		"none":                      nil,
		"an empty list":             {},
		"one":                       tapeOf("100*3"),
		"the least one":             tapeOf("1*1"),
		"the greatest one":          tapeOf("10000*1000"),
		"the least one of much":     tapeOf("1*1000"),
		"the greatest one of least": tapeOf("10000*1"),
		"two alike":                 tapeOf("100*3 100*3"),
		"two that rise":             tapeOf("98*2 100*3"),
		"two that fall":             tapeOf("100*3 98*2"),
		"the limits":                tapeOf("1*1 10000*1000 1*1000 10000*1"),
		"greatest in the middle":    tapeOf("5*1 9*2 7*3 2*4 6*5"),
		"least in the middle":       tapeOf("5*1 2*2 7*3 9*4 6*5"),
		"greatest ahead":            tapeOf("9*1 2*2 7*3 9*4 6*5"),
		"least ahead":               tapeOf("2*1 9*2 7*3 2*4 6*5"),
		"MaxList of the least":      manyTrades(impl.MaxList, impl.Trade{Price: 1, Amount: 1}),
		"MaxList of the greatest":   manyTrades(impl.MaxList, impl.Trade{Price: impl.MaxPrice, Amount: impl.MaxAmount}),
		"MaxList that rise":         rising,
		"MaxList that fall":         falling,
		"one less than MaxList":     rising[1:],
		"99 of them":                falling[:99],
		"100 of them":               falling[:100],
		"101 of them":               falling[:101],
	}
}

// wrongTrades: each a right one but for what it says.
func wrongTrades() map[string]impl.Trade {
	out := map[string]impl.Trade{"the zero one": {}}
	for _, n := range []int64{math.MinInt64, -1, 0, impl.MaxPrice + 1, 1<<32 + 100, math.MaxInt64} {
		out[fmt.Sprint("a Price of ", n)] = impl.Trade{Price: n, Amount: 5}
	}
	for _, n := range []int64{math.MinInt64, -1, 0, impl.MaxAmount + 1, 1<<32 + 5, math.MaxInt64} {
		out[fmt.Sprint("an Amount of ", n)] = impl.Trade{Price: 100, Amount: n}
	}
	return out
}

func TestTapeWrittenOut(t *testing.T) {
	l := impl.TradesOf(eventsOf("taken 7; fill 7 3 100 4; fill 7 5 101 1; cut 7 2; taken 8; changed 3 99 6; fill 8 3 99 6; refused 6; fill 9 4 103 2; fill 9 6 98 5"))
	alike(t, "trades", l, tapeOf("100*4 101*1 99*6 103*2 98*5"))
	same(t, "volume", impl.VolumeOf(l), 18)
	same(t, "turnover", impl.TurnoverOf(l), 400+101+594+206+490)
	same(t, "greatest", impl.HighOf(l), 103)
	same(t, "least", impl.LowOf(l), 98)
	for many, want := range map[int64]string{
		1:   "100/100/100/100*4 101/101/101/101*1 99/99/99/99*6 103/103/103/103*2 98/98/98/98*5",
		2:   "100/101/100/101*5 99/103/99/103*8 98/98/98/98*5",
		3:   "100/101/99/99*11 103/103/98/98*7",
		4:   "100/103/99/103*13 98/98/98/98*5",
		5:   "100/103/98/98*18",
		6:   "100/103/98/98*18",
		100: "100/103/98/98*18",
		0:   "", -1: "", 101: "",
	} {
		alike(t, fmt.Sprint("bars of ", many), impl.BarsOf(l, many), barsWritten(want))
	}
}

// Promise 19, of rows that are written out and of such as chance makes.
func TestBarsHaveAllThatWasTraded(t *testing.T) {
	for what, l := range rightTapes() {
		tellsTape(t, what, l)
	}
	for seed := range int64(150) {
		random := rand.New(rand.NewSource(seed))
		many := []int{1, 2, 3, 10, 100, impl.MaxList}[seed%6]
		tellsTape(t, fmt.Sprint("seed ", seed), someTrades(random, random.Intn(many)+1))
	}
	for seed := range int64(5) {
		tellsTape(t, fmt.Sprint("MaxList, seed ", seed), someTrades(rand.New(rand.NewSource(seed)), impl.MaxList))
	}
}

// Each row of up to five of three prices: all ways in which first, greatest, least and last may stand to each other.
func TestBarsOfAllSmallRows(t *testing.T) {
	rows := [][]impl.Trade{nil}
	for from := 0; len(rows[from]) < 5; from++ {
		for _, price := range []int64{7, 8, 9} {
			row := append(slices.Clone(rows[from]), impl.Trade{Price: price, Amount: int64(len(rows[from])) + 1})
			rows = append(rows, row)
		}
	}
	same(t, "as many rows as there are", len(rows), 1+3+9+27+81+243)
	for _, l := range rows {
		for many := int64(1); many <= 6; many++ {
			what := fmt.Sprint(l, " by ", many)
			bars := impl.BarsOf(l, many)
			alike(t, what, bars, barsByRule(l, many))
			barsOfAll(t, what, l, bars, many)
		}
	}
}

func TestTapeSumsAtTheLimits(t *testing.T) {
	greatest := manyTrades(impl.MaxList, impl.Trade{Price: impl.MaxPrice, Amount: impl.MaxAmount})
	same(t, "volume", impl.VolumeOf(greatest), 400*1000)
	same(t, "turnover", impl.TurnoverOf(greatest), 400*1000*10000)
	alike(t, "bars", impl.BarsOf(greatest, 100), slices.Repeat(barsWritten("10000/10000/10000/10000*100000"), 4))
	least := manyTrades(impl.MaxList, impl.Trade{Price: 1, Amount: 1})
	same(t, "volume of the least", impl.VolumeOf(least), 400)
	same(t, "turnover of the least", impl.TurnoverOf(least), 400)
	alike(t, "bars of the least", impl.BarsOf(least, 99), barsWritten("1/1/1/1*99 1/1/1/1*99 1/1/1/1*99 1/1/1/1*99 1/1/1/1*4"))
}

func TestTapeAtEachLimit(t *testing.T) {
	for _, price := range []int64{-1, 0, 1, 2, 9999, 10000, 10001} {
		for _, amount := range []int64{-1, 0, 1, 2, 999, 1000, 1001} {
			l := []impl.Trade{{Price: price, Amount: amount}}
			what := fmt.Sprint(l)
			if price < 1 || price > 10000 || amount < 1 || amount > 1000 {
				tellsNoTape(t, what, l)
				continue
			}
			tellsTape(t, what, l)
			alike(t, what+": its bar", impl.BarsOf(l, 1), []impl.Bar{{Open: price, High: price, Low: price, Close: price, Amount: amount}})
		}
	}
}

func TestTapeWithOneThatIsNotRight(t *testing.T) {
	rows := [][]impl.Trade{tapeOf("100*3"), tapeOf("100*3 98*2"), tapeOf("9*1 2*2 7*3 9*4 6*5"), manyTrades(10, impl.Trade{Price: 100, Amount: 5})}
	for what, wrong := range wrongTrades() {
		for _, row := range rows {
			for place := range row {
				l := slices.Clone(row)
				l[place] = wrong
				tellsNoTape(t, fmt.Sprintf("%s at %d of %d", what, place, len(l)), l)
			}
			tellsNoTape(t, fmt.Sprintf("%s behind %d", what, len(row)), append(slices.Clone(row), wrong))
		}
	}
	for place := range impl.MaxList {
		l := manyTrades(impl.MaxList, impl.Trade{Price: 100, Amount: 5})
		l[place].Price, l[place].Amount = int64(100*(place%2)), int64(5-5*(place%2))
		tellsNoTape(t, fmt.Sprintf("%+v at %d of MaxList", l[place], place), l)
	}
	// Two wrong ones may be right together.
	tellsNoTape(t, "turned round", tapeOf("100*-5 100*10"))
	tellsNoTape(t, "both below 0", tapeOf("-100*-5"))
}

func TestTapeOfLongLists(t *testing.T) {
	for what, trade := range map[string]impl.Trade{"right": {Price: 100, Amount: 5}, "the least": {Price: 1, Amount: 1}, "the zero one": {}} {
		for _, many := range []int{impl.MaxList + 1, impl.MaxList + 2, 2 * impl.MaxList, 100000} {
			tellsNoTape(t, fmt.Sprintf("%s, %d times", what, many), manyTrades(many, trade))
		}
	}
	for _, many := range []int{1, impl.MaxList - 1, impl.MaxList} {
		l := manyTrades(many, impl.Trade{Price: 100, Amount: 5})
		same(t, fmt.Sprint("the volume of ", many), impl.VolumeOf(l), int64(5*many))
		same(t, fmt.Sprint("the turnover of ", many), impl.TurnoverOf(l), int64(500*many))
		same(t, fmt.Sprint("the greatest of ", many), impl.HighOf(l), 100)
		same(t, fmt.Sprint("the least of ", many), impl.LowOf(l), 100)
		same(t, fmt.Sprint("bars of ", many), len(impl.BarsOf(l, 1)), many)
	}
}

func TestBarsOfHowMany(t *testing.T) {
	l := someTrades(rand.New(rand.NewSource(1)), impl.MaxList)
	wrong := append(strangeNumbers(), -100, -2, 101, 102, 200, 400, 1<<32, 1<<32+1, -1<<32+1, 1<<40+50)
	for _, size := range []int{0, 1, 2, 99, 100, 101, impl.MaxList} {
		for _, many := range wrong {
			alike(t, fmt.Sprintf("%d by %d", size, many), impl.BarsOf(l[:size], many), nil)
		}
	}
	for many := 1; many <= 100; many++ {
		for _, size := range []int{many - 1, many, many + 1, 2*many - 1, 2 * many, 2*many + 1} {
			bars := impl.BarsOf(l[:size], int64(many))
			what := fmt.Sprintf("%d by %d", size, many)
			alike(t, what, bars, barsByRule(l[:size], int64(many)))
			barsOfAll(t, what, l[:size], bars, int64(many))
		}
		same(t, fmt.Sprint("one less than ", many, " is one bar at most"), len(impl.BarsOf(l[:many-1], int64(many))), min(many-1, 1))
		same(t, fmt.Sprint("as many as ", many, " are one bar"), len(impl.BarsOf(l[:many], int64(many))), 1)
		alike(t, fmt.Sprint("one more than ", many, ": the last bar"), impl.BarsOf(l[:many+1], int64(many))[1], impl.BarsOf(l[many:many+1], 1)[0])
	}
}

// tradesByRule are those of events that are right, by their texts.
func tradesByRule(events []impl.Event) []impl.Trade {
	var out []impl.Trade
	for _, e := range events {
		var trade impl.Trade
		var id, other int64
		if n, _ := fmt.Sscanf(textOfEvent(e), "fill %d %d %d %d", &id, &other, &trade.Price, &trade.Amount); n == 4 {
			out = append(out, trade)
		}
	}
	return out
}

func tellsTrades(t *testing.T, what string, events []impl.Event) {
	t.Helper()
	before := slices.Clone(events)
	l := impl.TradesOf(events)
	alike(t, what, l, tradesByRule(events))
	fresh(t, what, l, events)
	same(t, what+": is it as it was?", slices.Equal(events, before), true)
}

func TestTradesOf(t *testing.T) {
	tellsTrades(t, "none", nil)
	tellsTrades(t, "an empty list", []impl.Event{})
	for _, e := range rightEvents() {
		tellsTrades(t, textOfEvent(e), []impl.Event{e})
	}
	for _, a := range baseEvents() {
		for _, b := range baseEvents() {
			for _, c := range baseEvents() {
				l := []impl.Event{a, b, c}
				tellsTrades(t, textOfEvents(l), l)
			}
		}
	}
	alike(t, "without a fill", impl.TradesOf(eventsOf("taken 3; cut 3 5; changed 4 100 5; refused 6")), nil)
	alike(t, "one at each limit", impl.TradesOf(eventsOf("fill 1 2 1 1; fill 1000000 1 10000 1000")), tapeOf("1*1 10000*1000"))
	all := rightEvents()
	for seed := range int64(200) {
		random := rand.New(rand.NewSource(seed))
		l := make([]impl.Event, random.Intn(40))
		for i := range l {
			l[i] = all[random.Intn(len(all))]
		}
		tellsTrades(t, fmt.Sprint("seed ", seed), l)
	}
}

func TestTradesOfOneThatIsNotRight(t *testing.T) {
	fills := manyEvents(3, fillOf(3, 4))
	for what, wrong := range wrongEvents() {
		for _, row := range [][]impl.Event{fills, baseEvents()} {
			for place := range row {
				l := slices.Clone(row)
				l[place] = wrong
				alike(t, fmt.Sprintf("%s at %d", what, place), impl.TradesOf(l), nil)
				alike(t, fmt.Sprintf("%s ahead of %d", what, place), impl.TradesOf(slices.Insert(slices.Clone(row), place, wrong)), nil)
			}
			alike(t, what+" behind all", impl.TradesOf(append(slices.Clone(row), wrong)), nil)
		}
		alike(t, what+" alone", impl.TradesOf([]impl.Event{wrong}), nil)
	}
	for place := range impl.MaxList {
		l := manyEvents(impl.MaxList, fillOf(3, 4))
		l[place].Other = 3
		alike(t, fmt.Sprintf("met itself at %d of MaxList", place), impl.TradesOf(l), nil)
	}
}

func TestTradesOfLongLists(t *testing.T) {
	for _, e := range baseEvents() {
		for _, many := range []int{impl.MaxList - 1, impl.MaxList} {
			tellsTrades(t, fmt.Sprintf("%d of %s", many, textOfEvent(e)), manyEvents(many, e))
		}
		for _, many := range []int{impl.MaxList + 1, impl.MaxList + 2, 100000} {
			alike(t, fmt.Sprintf("%d of %s", many, textOfEvent(e)), impl.TradesOf(manyEvents(many, e)), nil)
		}
	}
	same(t, "MaxList of them", len(impl.TradesOf(manyEvents(impl.MaxList, fillOf(3, 4)))), impl.MaxList)
}

// What commands do to a newer book is on the tape as it is in the ledger.
func TestTapeOfANewerBook(t *testing.T) {
	traded := int64(0)
	for seed := range int64(60) {
		random := rand.New(rand.NewSource(seed))
		b, ledger, events := impl.NewNew(), []impl.Entry(nil), []impl.Event(nil)
		for range 40 {
			c := someNewCmd(random, b, random.Int63n(8)+1, 30)
			done := impl.NewDo(b, c)
			if done.Code != impl.OK || len(events)+len(done.Events) > impl.MaxList {
				continue
			}
			b, events = done.New, append(events, done.Events...)
			ledger = impl.LedgerDo(ledger, c, done.Events).Ledger
		}
		l, p := impl.TradesOf(events), impl.Position{}
		for owner := int64(1); owner <= 9; owner++ {
			own := impl.PositionOf(ledger, owner)
			p = impl.Position{Bought: p.Bought + own.Bought, Paid: p.Paid + own.Paid}
		}
		what := fmt.Sprint("seed ", seed)
		same(t, what+": the volume is what was bought", impl.VolumeOf(l), p.Bought)
		same(t, what+": the turnover is what was paid", impl.TurnoverOf(l), p.Paid)
		tellsTape(t, what, l)
		traded += p.Bought
	}
	same(t, "was there any?", traded > 0, true)
}

func TestTapeCallsWriteNothingBehindAList(t *testing.T) {
	laid := func() ([]impl.Event, []impl.Trade) {
		return eventsOf("taken 5; fill 5 3 7 1; fill 9 3 4 5; cut 5 1; fill 7 7001 8 9; taken 78"), tapeOf("5*1 9*2 7*3 2*4 6*5 8*6 1*7 10000*1000")
	}
	wholeEvents, wholeTrades := laid()
	events, trades := wholeEvents[:3], wholeTrades[:5]
	for range 2 {
		told := impl.TradesOf(events)
		alike(t, "trades", told, tapeOf("7*1 4*5"))
		fresh(t, "trades", told, wholeEvents)
		for i := range told {
			told[i] = impl.Trade{}
		}
		bars := impl.BarsOf(trades, 3)
		alike(t, "bars", bars, barsWritten("5/9/5/7*6 2/6/2/6*9"))
		fresh(t, "bars", bars, wholeTrades)
		for i := range bars {
			bars[i] = impl.Bar{}
		}
		same(t, "volume", impl.VolumeOf(trades), 15)
		same(t, "turnover", impl.TurnoverOf(trades), 5+18+21+8+30)
		same(t, "greatest", impl.HighOf(trades), 9)
		same(t, "least", impl.LowOf(trades), 2)
	}
	eventsNow, tradesNow := laid()
	same(t, "what stands behind the events", slices.Equal(wholeEvents, eventsNow), true)
	same(t, "what stands behind the trades", slices.Equal(wholeTrades, tradesNow), true)
}
