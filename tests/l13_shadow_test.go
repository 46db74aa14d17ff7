package tests

import (
	"fmt"
	"math"
	"math/rand"
	"slices"
	"testing"

	"loop.example/g00446/impl"
)

// shadowOf has that older book, and the newer one with the same orders.
func shadowOf(b impl.Old) impl.Shadow {
	return impl.Shadow{Old: copyOf(b), New: newFromOld(b)}
}

func newShadow() impl.Shadow {
	return impl.Shadow{Old: impl.OldNew(), New: impl.NewNew()}
}

// shadowByRule is what the document says of a right Shadow, by the models of both makes.
func shadowByRule(s impl.Shadow, c impl.Cmd) impl.ShadowOut {
	if !impl.CmdOld(c) {
		return impl.ShadowOut{Code: impl.ErrForm}
	}
	older, newer := oldByRule(s.Old, c), newByRule(s.New, c)
	switch {
	case older.Code != newer.Code || !slices.Equal(older.Events, newer.Events):
		return impl.ShadowOut{Code: impl.ErrSum}
	case older.Code != impl.OK:
		return impl.ShadowOut{Same: true, Code: older.Code}
	case !sameNew(newFromOld(older.Old), newer.New):
		return impl.ShadowOut{Code: impl.ErrSum}
	}
	return impl.ShadowOut{Shadow: impl.Shadow{Old: older.Old, New: newer.New}, Events: older.Events, Same: true}
}

func sameShadow(a, b impl.Shadow) bool {
	return sameOrders(a.Old, b.Old) && sameNew(a.New, b.New)
}

func sameShadowOut(a, b impl.ShadowOut) bool {
	return a.Code == b.Code && a.Same == b.Same && slices.Equal(a.Events, b.Events) && sameShadow(a.Shadow, b.Shadow)
}

// runsByRule is what the document says of a list that is not too long.
func runsByRule(l []impl.Cmd) impl.ShadowOut {
	run := impl.ShadowOut{Shadow: newShadow(), Same: true}
	for _, c := range l {
		out := shadowByRule(run.Shadow, c)
		if out.Code == impl.ErrSum {
			return impl.ShadowOut{Code: impl.ErrSum}
		}
		if out.Code == impl.OK {
			run.Shadow = out.Shadow
			run.Events = append(run.Events, out.Events...)
		}
	}
	return run
}

// sideBySide: promise 20 of one old command, done to a right Shadow: what both makes tell by themselves is what is told of both.
func sideBySide(t *testing.T, s impl.Shadow, c impl.Cmd) impl.ShadowOut {
	t.Helper()
	what := fmt.Sprintf("%s: %s", textOfOld(s.Old), textOfCmd(c))
	oldBefore, newBefore := copyOf(s.Old), copyNew(s.New)
	got, want := impl.ShadowDo(s, c), shadowByRule(s, c)
	if !sameShadowOut(got, want) {
		alike(t, what, got, want)
	}
	older, newer := impl.OldDo(s.Old, c), impl.NewDo(s.New, c)
	if got.Code != older.Code || got.Code != newer.Code || !slices.Equal(got.Events, older.Events) || !slices.Equal(got.Events, newer.Events) {
		t.Errorf("%s: got %+v, but the older one tells %+v, the newer one %+v", what, got, older, newer)
	}
	if !sameOrders(got.Shadow.Old, older.Old) || !sameNew(got.Shadow.New, newer.New) {
		t.Errorf("%s: the books are %+v, but the older one is %+v, the newer one %+v", what, got.Shadow, older.Old, newer.New)
	}
	if !got.Same {
		t.Errorf("%s: it is not the same: %+v", what, got)
	}
	if right := impl.ShadowRight(got.Shadow); right != (got.Code == impl.OK) {
		t.Errorf("%s: with the code %d: is it right then? %v", what, got.Code, right)
	}
	if !sameOrders(s.Old, oldBefore) || !sameNew(s.New, newBefore) {
		t.Errorf("%s: it is changed then: %+v", what, s)
	}
	return got
}

// shadowTells is sideBySide, with the memory of the answer, too.
func shadowTells(t *testing.T, s impl.Shadow, c impl.Cmd) impl.ShadowOut {
	t.Helper()
	got := sideBySide(t, s, c)
	fresh(t, textOfOld(s.Old)+": "+textOfCmd(c), got, s)
	return got
}

// shadowFault: is it refused with that code, and nothing told beside it?
func shadowFault(t *testing.T, what string, s impl.Shadow, c impl.Cmd, code int64) {
	t.Helper()
	before := copyOf(s)
	alike(t, what, impl.ShadowDo(s, c), impl.ShadowOut{Code: code})
	alike(t, what+": handed in", s, before)
}

// wrongShadows are those that are not right, for an Old, a New, or both that do not go together.
func wrongShadows() map[string]impl.Shadow {
	some := oldOf(someOldText)
	out := map[string]impl.Shadow{
		"the zero one":               {},
		"an Old alone":               {Old: impl.OldNew()},
		"a New alone":                {New: impl.NewNew()},
		"some, an Old alone":         {Old: some},
		"some, a New alone":          {New: newFromOld(some)},
		"some, and a new New":        {Old: some, New: impl.NewNew()},
		"a new Old, and some":        {Old: impl.OldNew(), New: newFromOld(some)},
		"the sides turned round":     {Old: oldOf("1/1:5x5 | | 2"), New: newFromOld(oldOf("| 1/1:5x5 | 2"))},
		"a bid more in the Old":      {Old: fullOld(3, 3), New: newFromOld(oldWithout(fullOld(3, 3), 2))},
		"a bid more in the New":      {Old: oldWithout(fullOld(3, 3), 1), New: newFromOld(fullOld(3, 3))},
		"an ask more in the Old":     {Old: fullOld(3, 3), New: newFromOld(oldWithout(fullOld(3, 3), 4))},
		"an ask more in the New":     {Old: oldWithout(fullOld(3, 3), 6), New: newFromOld(fullOld(3, 3))},
		"a level more in the New":    {Old: oldOf("1/1:5x5 | | 9"), New: newOf("1/1:5x5 2/1:4x5 | | 9")},
		"those of a price in turn":   {Old: oldOf("1/1:5x5 2/1:5x5 | | 9"), New: newOf("2/1:5x5 1/1:5x5 | | 9")},
		"those of a price in two":    {Old: oldOf("1/1:5x5 2/1:5x5 | | 9"), New: impl.New{Bids: []impl.Level{{Price: 5, Orders: ordersOf("1/1:5x5")}, {Price: 5, Orders: ordersOf("2/1:5x5")}}, Next: 9}},
		"a level without orders":     {Old: oldOf("1/1:5x5 | | 9"), New: impl.New{Bids: []impl.Level{{Price: 6}, {Price: 5, Orders: ordersOf("1/1:5x5")}}, Next: 9}},
		"a level of another Price":   {Old: oldOf("1/1:5x5 | | 9"), New: impl.New{Bids: []impl.Level{{Price: 6, Orders: ordersOf("1/1:5x5")}}, Next: 9}},
		"another Next in the New":    {Old: oldOf("| | 9"), New: impl.New{Next: 10}},
		"another Next, one less":     {Old: oldOf("| | 9"), New: impl.New{Next: 8}},
		"the zero Next in the New":   {Old: oldOf("| | 9"), New: impl.New{}},
		"one too many in both":       shadowOf(fullOld(12, 13)),
		"far too many in both":       shadowOf(fullOld(450, 450)),
		"far too many in the Old":    {Old: fullOld(450, 0), New: newFromOld(fullOld(12, 12))},
		"far too many in the New":    {Old: fullOld(12, 12), New: newFromOld(fullOld(450, 0))},
		"crossed alike":              shadowOf(oldOf("1/1:6x1 | 2/1:5x1 | 9")),
		"a Guard in both":            {Old: impl.Old{Bids: restingOf("1/1:5x5g"), Next: 9}, New: newOf("1/1:5x5g | | 9")},
		"a Peak in both":             {Old: impl.Old{Asks: restingOf("1/1:5x5p5"), Next: 9}, New: newOf("| 1/1:5x5p5 | 9")},
		"a Peak and Hidden in both":  {Old: impl.Old{Asks: restingOf("1/1:5x5+3p5"), Next: 9}, New: newOf("| 1/1:5x5+3p5 | 9")},
		"both Next are too great":    shadowOf(impl.Old{Next: impl.MaxTime + 1}),
		"both Next are far too less": shadowOf(impl.Old{Next: math.MinInt64}),
	}
	for at := range placesOf(newFromOld(some)) {
		for thing, turn := range newThings() {
			s := shadowOf(some)
			turn(placesOf(s.New)[at])
			out[fmt.Sprintf("%s at %d", thing, at)] = s
		}
		for what, turned := range turnedOrders(*placesOf(newFromOld(some))[at]) {
			s := shadowOf(some)
			*placesOf(s.New)[at] = turned
			out[fmt.Sprintf("in the New at %d: %s", at, what)] = s
			s = shadowOf(some)
			s.Old = oldTurned(some, at, turned)
			out[fmt.Sprintf("in the Old at %d: %s", at, what)] = s
		}
	}
	return out
}

// oldWithout leaves one order out.
func oldWithout(b impl.Old, id int64) impl.Old {
	is := func(o impl.Order) bool { return o.Id == id }
	return impl.Old{Bids: slices.DeleteFunc(copyOf(b.Bids), is), Asks: slices.DeleteFunc(copyOf(b.Asks), is), Next: b.Next}
}

// oldTurned has that order at the place, of Bids, then of Asks.
func oldTurned(b impl.Old, at int, o impl.Order) impl.Old {
	out := copyOf(b)
	if at < len(out.Bids) {
		out.Bids[at] = o
	} else {
		out.Asks[at-len(out.Bids)] = o
	}
	return out
}

// rightShadows are both makes of each right older book.
func rightShadows() map[string]impl.Shadow {
	out := map[string]impl.Shadow{"new ones": newShadow()}
	for what, b := range rightOlds() {
		out[what] = shadowOf(b)
		out[what+", the sides turned round"] = shadowOf(mirroredOld(b))
	}
	return out
}

func TestShadowRight(t *testing.T) {
	for what, s := range rightShadows() {
		before := copyOf(s)
		same(t, what, impl.ShadowRight(s), true)
		same(t, what+": what goes over", impl.ShadowRight(impl.Shadow{Old: s.Old, New: impl.Up(s.Old)}), true)
		alike(t, what+": handed in", s, before)
	}
	for what, s := range wrongShadows() {
		before := copyOf(s)
		same(t, what, impl.ShadowRight(s), false)
		alike(t, what+": handed in", s, before)
	}
	for bids := range impl.MaxRest + 3 {
		for _, asks := range []int{0, 1, impl.MaxRest - bids, impl.MaxRest + 1 - bids} {
			if asks >= 0 {
				same(t, fmt.Sprintf("%d bids, %d asks", bids, asks), impl.ShadowRight(shadowOf(fullOld(bids, asks))), bids+asks <= 24)
			}
		}
	}
}

func TestShadowRightOfBooksThatAreNot(t *testing.T) {
	for what, b := range wrongOlds() {
		for other, n := range map[string]impl.New{"the same orders": newFromOld(b), "what Up tells": impl.Up(b), "none": {}, "a new one": impl.NewNew(), "some": newOf(someNewText)} {
			same(t, what+": "+other, impl.ShadowRight(impl.Shadow{Old: b, New: n}), false)
		}
	}
	for what, n := range wrongNews() {
		own := impl.Old{Bids: restingIn(n.Bids), Asks: restingIn(n.Asks), Next: n.Next}
		for other, b := range map[string]impl.Old{"the same orders": own, "a new one": impl.OldNew(), "some": oldOf(someOldText), "the zero one": {}} {
			same(t, what+": "+other, impl.ShadowRight(impl.Shadow{Old: b, New: n}), false)
		}
	}
	for what, n := range rightNews() {
		own := impl.Old{Bids: restingIn(n.Bids), Asks: restingIn(n.Asks), Next: n.Next}
		same(t, what, impl.ShadowRight(impl.Shadow{Old: own, New: n}), impl.FirstNew(n) == 0)
	}
}

func TestShadowRightOfEachWithEach(t *testing.T) {
	for what, a := range rightOlds() {
		for other, b := range rightOlds() {
			same(t, what+" and "+other, impl.ShadowRight(impl.Shadow{Old: a, New: newFromOld(b)}), textOfOld(a) == textOfOld(b))
		}
	}
	empty := impl.Shadow{Old: impl.Old{Bids: []impl.Order{}, Next: 5}, New: impl.New{Asks: []impl.Level{}, Next: 5}}
	same(t, "an empty list and none", impl.ShadowRight(empty), true)
}

func TestShadowDoOfAShadowThatIsNotRight(t *testing.T) {
	for what, s := range wrongShadows() {
		for _, c := range append(append(baseCmds(), newCmds()...), impl.Cmd{}, cmdOf("cancel 1 3"), cmdOf("cancel 9 99")) {
			shadowFault(t, what+": "+textOfCmd(c), s, c, impl.ErrForm)
		}
	}
	for what, b := range wrongOlds() {
		shadowFault(t, what, shadowOf(b), rollOf(), impl.ErrForm)
		shadowFault(t, what, impl.Shadow{Old: b, New: impl.NewNew()}, rollOf(), impl.ErrForm)
	}
	for what, n := range wrongNews() {
		shadowFault(t, what, impl.Shadow{Old: impl.OldNew(), New: n}, rollOf(), impl.ErrForm)
		shadowFault(t, what, impl.Shadow{Old: impl.Old{Bids: restingIn(n.Bids), Asks: restingIn(n.Asks), Next: n.Next}, New: n}, rollOf(), impl.ErrForm)
	}
	// No other fault is told ahead of it: both would refuse these, if they were alike.
	full := shadowOf(fullOld(12, 12))
	full.New.Next++
	last := shadowOf(impl.Old{Next: impl.MaxTime})
	last.Old.Next--
	for _, text := range []string{"limit 1 buy 1 1 stay", "limit 1 sell 1 1 day", "market 1 buy 1", "cancel 9 99", "replace 9 99 1 1"} {
		shadowFault(t, "full: "+text, full, cmdOf(text), impl.ErrForm)
		shadowFault(t, "the last Next: "+text, last, cmdOf(text), impl.ErrForm)
	}
}

func TestShadowDoOfACommandThatIsNoOldOne(t *testing.T) {
	shadows := map[string]impl.Shadow{"new ones": newShadow(), "some": shadowOf(oldOf(someOldText)), "full": shadowOf(fullOld(12, 12)), "the last Next": shadowOf(impl.Old{Next: impl.MaxTime})}
	for what, s := range shadows {
		for wrong, c := range wrongCmds() {
			shadowFault(t, what+": "+wrong, s, c, impl.ErrForm)
		}
		for _, c := range newCmds() {
			shadowFault(t, what+": "+textOfCmd(c), s, c, impl.ErrForm)
		}
		for _, c := range rightCmds() {
			if c.Post || c.Peak != 0 || c.Guard {
				shadowFault(t, what+": "+textOfCmd(c), s, c, impl.ErrForm)
			}
		}
	}
}

// What both refuse with one code is the same, and that code alone is told beside it.
func TestShadowDoOfWhatBothRefuse(t *testing.T) {
	full, last := fullOld(10, 14), oldOf("3/1:100x50 | 999999/1:101x50d | 1000000")
	cases := []struct {
		book impl.Old
		text string
		code int64
	}{
		{impl.OldNew(), "cancel 1 1", impl.ErrNone},
		{impl.OldNew(), "replace 1 1 1 1", impl.ErrNone},
		{oldOf(someOldText), "cancel 1 7", impl.ErrNone},
		{oldOf(someOldText), "cancel 2 3", impl.ErrNone},
		{oldOf(someOldText), "cancel 9 1000000", impl.ErrNone},
		{oldOf(someOldText), "replace 3 3 100 4", impl.ErrNone},
		{oldOf(someOldText), "replace 1 6 10000 1000", impl.ErrNone},
		{full, "limit 1 buy 1 1 stay", impl.ErrFull},
		{full, "limit 1 sell 10000 1000 day", impl.ErrFull},
		{full, "limit 1 buy 600 1 stay", impl.ErrFull},
		{full, "limit 1 sell 500 1 day", impl.ErrFull},
		{full, "cancel 1 25", impl.ErrNone},
		{last, "limit 1 buy 100 1 stay", impl.ErrFull},
		{last, "limit 1 buy 100 1 day", impl.ErrFull},
		{last, "limit 1 buy 101 1 now", impl.ErrFull},
		{last, "limit 1 buy 101 1 all", impl.ErrFull},
		{last, "market 1 sell 1", impl.ErrFull},
		{last, "cancel 1 1000000", impl.ErrNone},
		{impl.Old{Next: impl.MaxTime}, "market 9 buy 1000", impl.ErrFull},
	}
	for _, k := range cases {
		for _, turned := range []bool{false, true} {
			b, c := k.book, cmdOf(k.text)
			if turned {
				b, c = mirroredOld(b), mirroredCmd(c)
			}
			got := shadowTells(t, shadowOf(b), c)
			alike(t, textOfOld(b)+": "+textOfCmd(c), got, impl.ShadowOut{Same: true, Code: k.code})
		}
	}
}

// doesShadow looks at each case, and at the same with the sides turned round.
func doesShadow(t *testing.T, cases []oldCase) {
	t.Helper()
	for _, k := range cases {
		b, c, after, events := oldOf(k.book), cmdOf(k.cmd), oldOf(k.after), eventsOf(k.events)
		alike(t, k.book+": "+k.cmd, shadowTells(t, shadowOf(b), c), impl.ShadowOut{Shadow: shadowOf(after), Events: events, Same: true})
		got := shadowTells(t, shadowOf(mirroredOld(b)), mirroredCmd(c))
		if c.Kind != impl.CmRoll {
			alike(t, k.book+", turned: "+k.cmd, got, impl.ShadowOut{Shadow: shadowOf(mirroredOld(after)), Events: mirroredEvents(events), Same: true})
		}
	}
}

func TestShadowDo(t *testing.T) {
	doesShadow(t, []oldCase{
		// without a meeting
		{"| | 1", "limit 1 buy 100 5 stay", "taken 1", "1/1:100x5 | | 2"},
		{"| | 1", "limit 1 buy 100 5 day", "taken 1", "1/1:100x5d | | 2"},
		{"| | 1", "limit 1 buy 100 5 now", "taken 1; cut 1 5", "| | 2"},
		{"| | 1", "limit 1 buy 100 5 all", "taken 1; cut 1 5", "| | 2"},
		{"| | 1", "market 1 buy 5", "taken 1; cut 1 5", "| | 2"},
		{"| | 1", "roll", "", "| | 1"},
		{someOldText, "cancel 1 3", "cut 3 5", "1/2:100x7d 6/2:99x1 | 5/3:102x4d 2/1:103x6 4/4:103x9 | 7"},
		{someOldText, "replace 2 1 100 6", "changed 1 100 6", "3/1:100x5 1/2:100x6d 6/2:99x1 | 5/3:102x4d 2/1:103x6 4/4:103x9 | 7"},
		{someOldText, "replace 1 3 100 5", "changed 3 100 5", "1/2:100x7d 3/1:100x5 6/2:99x1 | 5/3:102x4d 2/1:103x6 4/4:103x9 | 7"},
		{someOldText, "roll", "cut 1 7; cut 5 4", "3/1:100x5 6/2:99x1 | 2/1:103x6 4/4:103x9 | 7"},
		// with one
		{sells, "limit 5 buy 102 20 stay", "taken 5; fill 5 1 100 5; fill 5 2 100 3; fill 5 3 102 4", "5/5:102x8 | 4/4:105x9 | 6"},
		{sells, "limit 5 buy 102 20 day", "taken 5; fill 5 1 100 5; fill 5 2 100 3; fill 5 3 102 4", "5/5:102x8d | 4/4:105x9 | 6"},
		{sells, "limit 5 buy 102 13 now", "taken 5; fill 5 1 100 5; fill 5 2 100 3; fill 5 3 102 4; cut 5 1", "| 4/4:105x9 | 6"},
		{sells, "limit 5 buy 102 13 all", "taken 5; cut 5 13", "| 1/1:100x5 2/2:100x3 3/3:102x4d 4/4:105x9 | 6"},
		{sells, "limit 5 buy 102 12 all", "taken 5; fill 5 1 100 5; fill 5 2 100 3; fill 5 3 102 4", "| 4/4:105x9 | 6"},
		{sells, "market 5 buy 22", "taken 5; fill 5 1 100 5; fill 5 2 100 3; fill 5 3 102 4; fill 5 4 105 9; cut 5 1", "| | 6"},
		{sells, "market 1 buy 6", "taken 5; fill 5 1 100 5; fill 5 2 100 1", "| 2/2:100x2 3/3:102x4d 4/4:105x9 | 6"},
		{"1/1:90x5 | 2/1:110x5 | 3", "replace 1 1 110 6", "changed 1 110 6; fill 1 2 110 5", "1/1:110x1 | | 3"},
		// at the limits of numbers
		{"| 1/1:10000x1000 | 2", "limit 9 buy 10000 1000 all", "taken 2; fill 2 1 10000 1000", "| | 3"},
		{"| 1/1:1x1000 | 2", "limit 9 buy 10000 999 stay", "taken 2; fill 2 1 1 999", "| 1/1:1x1 | 3"},
		{"1/1:1x1 | | 999999", "limit 9 buy 1 1000 stay", "taken 999999", "1/1:1x1 999999/9:1x1000 | | 1000000"},
		{"| 5/5:103x4 | 1000000", "replace 5 5 1 1000", "changed 5 1 1000", "| 5/5:1x1000 | 1000000"},
		{"999999/9:5x1d | | 1000000", "roll", "cut 999999 1", "| | 1000000"},
	})
}

// Promise 20 of each right command on each right book: the old ones alone are done, or refused by both.
func TestShadowDoOfRightCommands(t *testing.T) {
	seen := map[int64]int{}
	for what, s := range rightShadows() {
		for _, c := range append(rightCmds(), baseCmds()...) {
			if c.Post || c.Peak != 0 || c.Guard {
				same(t, what+": "+textOfCmd(c), impl.ShadowDo(s, c).Code, impl.ErrForm)
				continue
			}
			seen[sideBySide(t, s, c).Code]++
		}
	}
	if seen[impl.OK] < 100 || seen[impl.ErrFull] < 100 || seen[impl.ErrNone] < 100 || len(seen) != 3 {
		t.Errorf("of little worth: %v", seen)
	}
}

func TestShadowDoAtMaxRest(t *testing.T) {
	for bids := range impl.MaxRest + 1 {
		full, less := shadowOf(fullOld(bids, impl.MaxRest-bids)), shadowOf(fullOld(bids, max(impl.MaxRest-1-bids, 0)))
		for text, rests := range takers() {
			want := int64(impl.OK)
			if rests {
				want = impl.ErrFull
			}
			same(t, fmt.Sprintf("%d bids: %s", bids, text), sideBySide(t, full, cmdOf(text)).Code, want)
			if bids < impl.MaxRest {
				same(t, fmt.Sprintf("%d bids, one less: %s", bids, text), sideBySide(t, less, cmdOf(text)).Code, impl.OK)
			}
		}
		for _, text := range []string{"cancel 1 7", "replace 1 7 550 5", "replace 1 7 1 1000", "replace 1 7 10000 1000", "roll", "market 2 buy 1000", "market 2 sell 1000"} {
			same(t, fmt.Sprintf("%d bids: %s", bids, text), sideBySide(t, full, cmdOf(text)).Code, impl.OK)
		}
	}
}

// Promise 20 of all small books and all small commands.
func TestShadowDoInTheSmall(t *testing.T) {
	cmds := smallCmds()
	for _, bids := range smallSides(true) {
		for _, asks := range smallSides(false) {
			b := impl.Old{Bids: copyOf(bids), Asks: copyOf(asks), Next: 9}
			for i := range b.Asks {
				b.Asks[i].Id += 4
			}
			s := shadowOf(b)
			right := impl.ShadowRight(s)
			if right == crossed(b) {
				t.Errorf("%s: is it right? %v", textOfOld(b), right)
			}
			for _, c := range cmds {
				if right {
					sideBySide(t, s, c)
				}
			}
		}
	}
}

// Promise 20 step by step: each Shadow goes on from what was told.
func TestShadowDoInLongRuns(t *testing.T) {
	for seed := range int64(24) {
		random := rand.New(rand.NewSource(seed))
		s := newShadow()
		if seed%4 == 2 {
			s = shadowOf(fullOld(int(seed), impl.MaxRest-int(seed)))
		}
		if seed%4 == 3 {
			s = shadowOf(impl.Old{Next: impl.MaxTime - 150})
		}
		spread, most := random.Int63n(15)+1, random.Int63n(40)+1
		seen, fills := map[int64]int{}, 0
		for range 400 {
			out := sideBySide(t, s, someOldCmd(random, s.Old, spread, most))
			seen[out.Code]++
			if out.Code == impl.OK {
				s = out.Shadow
				fills += len(tradesByRule(out.Events))
			}
		}
		if seen[impl.OK] < 20 || seen[impl.ErrNone] == 0 || fills == 0 || seed%4 == 3 && seen[impl.ErrFull] == 0 {
			t.Errorf("a run of little worth: %v, %d fills", seen, fills)
		}
	}
}

func cmdsOf(texts ...string) []impl.Cmd {
	var out []impl.Cmd
	for _, text := range texts {
		out = append(out, cmdOf(text))
	}
	return out
}

// shadowRuns looks at a list of at most MaxList: at what is told of it, and at what ShadowDo tells one by one.
func shadowRuns(t *testing.T, what string, l []impl.Cmd) impl.ShadowOut {
	t.Helper()
	before := slices.Clone(l)
	got, want := impl.ShadowRun(l), runsByRule(l)
	alike(t, what, got, want)
	fresh(t, what, got, l)
	if !slices.Equal(l, before) {
		t.Errorf("%s: the list is changed", what)
	}
	same(t, what+": is it right?", impl.ShadowRight(got.Shadow), true)
	one := impl.ShadowOut{Shadow: newShadow(), Same: true}
	for _, c := range l {
		out := impl.ShadowDo(one.Shadow, c)
		same(t, what+": "+textOfCmd(c), out.Same, impl.CmdOld(c))
		if out.Code == impl.OK {
			one.Shadow = out.Shadow
			one.Events = append(one.Events, out.Events...)
		}
	}
	alike(t, what+": one by one", got, one)
	return got
}

func TestShadowRun(t *testing.T) {
	for what, l := range map[string][]impl.Cmd{"none": nil, "an empty list": {}, "an empty list with room": make([]impl.Cmd, 0, 9)} {
		alike(t, what, shadowRuns(t, what, l), impl.ShadowOut{Shadow: newShadow(), Same: true})
	}
	cases := []struct {
		texts  []string
		events string
		after  string
	}{
		{[]string{"roll"}, "", "| | 1"},
		{[]string{"limit 1 sell 100 5 stay"}, "taken 1", "| 1/1:100x5 | 2"},
		{[]string{"limit 1 sell 100 5 stay", "market 2 buy 3"}, "taken 1; taken 2; fill 2 1 100 3", "| 1/1:100x2 | 3"},
		{[]string{"market 2 buy 3", "limit 1 sell 100 5 stay"}, "taken 1; cut 1 3; taken 2", "| 2/1:100x5 | 3"},
		{[]string{"limit 1 sell 100 5 day", "limit 2 buy 100 2 all", "replace 1 1 99 4", "limit 3 buy 98 1 day", "roll"},
			"taken 1; taken 2; fill 2 1 100 2; changed 1 99 4; taken 3; cut 3 1; cut 1 4", "| | 4"},
		{[]string{"limit 1 buy 5 1 stay", "limit 1 buy 5 1 stay", "replace 1 1 5 1", "market 2 sell 1"},
			"taken 1; taken 2; changed 1 5 1; taken 3; fill 3 2 5 1", "1/1:5x1 | | 4"},
		// Those that tell a code are as if they had not been, whatever stands there.
		{[]string{"cancel 1 1", "limit 1 sell 100 5 stay", "cancel 2 1", "market 2 buy 3", "replace 1 2 1 1", "cancel 1 1", "cancel 1 1"},
			"taken 1; taken 2; fill 2 1 100 3; cut 1 2", "| | 3"},
		{[]string{"cancel 1 1", "replace 9 1000000 1 1"}, "", "| | 1"},
		{[]string{"limit 1 sell 100 5 stay guard"}, "", "| | 1"},
		{[]string{"limit 1 sell 100 5 stay", "limit 1 sell 99 5 stay post", "limit 2 sell 98 5 day peak 2", "market 2 buy 3", "limit 3 buy 100 9 now guard"},
			"taken 1; taken 2; fill 2 1 100 3", "| 1/1:100x2 | 3"},
	}
	for _, k := range cases {
		got := shadowRuns(t, fmt.Sprint(k.texts), cmdsOf(k.texts...))
		alike(t, fmt.Sprint(k.texts), got, impl.ShadowOut{Shadow: shadowOf(oldOf(k.after)), Events: eventsOf(k.events), Same: true})
	}
}

// Cmds that are no old ones, or that both refuse, at each place: the others tell what they tell without.
func TestShadowRunPassesByWhatTellsACode(t *testing.T) {
	l := cmdsOf("limit 1 sell 100 5 stay", "limit 2 sell 100 3 day", "limit 3 buy 100 6 stay", "replace 2 2 101 9", "cancel 2 2", "market 4 sell 1", "limit 5 buy 7 7 day", "roll")
	want := shadowRuns(t, "without", l)
	same(t, "how many are told", len(want.Events), 11)
	passed := append(newCmds(), cmdsOf("cancel 9 1", "replace 9 2 1 1", "cancel 1 1000000")...)
	for _, c := range wrongCmds() {
		passed = append(passed, c)
	}
	for _, c := range passed {
		for at := range len(l) + 1 {
			got := impl.ShadowRun(slices.Insert(slices.Clone(l), at, c))
			if !sameShadowOut(got, want) {
				alike(t, fmt.Sprintf("%+v at %d", c, at), got, want)
			}
		}
		alike(t, fmt.Sprintf("%+v alone", c), impl.ShadowRun([]impl.Cmd{c}), impl.ShadowOut{Shadow: newShadow(), Same: true})
		among := []impl.Cmd{c}
		for _, d := range l {
			among = append(among, d, c, c)
		}
		alike(t, fmt.Sprintf("%+v between all", c), shadowRuns(t, "between all", among), want)
	}
}

func manyCmds(many int, c impl.Cmd) []impl.Cmd {
	return slices.Repeat([]impl.Cmd{c}, many)
}

func TestShadowRunOfManyCommands(t *testing.T) {
	for _, c := range append(append(baseCmds(), newCmds()...), impl.Cmd{}, cmdOf("cancel 1 1")) {
		for _, many := range []int{impl.MaxList - 1, impl.MaxList} {
			shadowRuns(t, fmt.Sprint(many, " ", textOfCmd(c)), manyCmds(many, c))
		}
		for _, many := range []int{impl.MaxList + 1, impl.MaxList + 2, 2 * impl.MaxList, 100000} {
			alike(t, fmt.Sprint(many, " ", textOfCmd(c)), impl.ShadowRun(manyCmds(many, c)), impl.ShadowOut{Code: impl.ErrSize})
		}
	}
	same(t, "all are counted", impl.ShadowRun(manyCmds(impl.MaxList, marketOf(true))).Shadow.Old.Next, impl.MaxList+1)
	same(t, "as many events as come", len(impl.ShadowRun(manyCmds(impl.MaxList, marketOf(true))).Events), 2*impl.MaxList)
}

// As many rest as may; the others tell a code until there is room again.
func TestShadowRunUpToMaxRest(t *testing.T) {
	for bids := range impl.MaxRest + 1 {
		var l []impl.Cmd
		for n := range int64(impl.MaxRest) {
			c := limitOf(n < int64(bids), n%2)
			c.Price = 500 + n%3
			if !c.Buy {
				c.Price += 10
			}
			l = append(l, c)
		}
		full := shadowRuns(t, "filled up", l)
		same(t, "how many rest", impl.OldCount(full.Shadow.Old), impl.MaxRest)
		same(t, "Next", full.Shadow.Old.Next, 25)
		for life := range int64(2) {
			for _, buy := range []bool{true, false} {
				alike(t, "one more", shadowRuns(t, "one more", append(slices.Clone(l), limitOf(buy, life))), full)
			}
		}
		room := shadowRuns(t, "room again", append(slices.Clone(l), limitOf(true, 0), cancelOf(3), impl.Cmd{Kind: impl.CmCancel, Owner: 3, Id: 3}, limitOf(true, 0), limitOf(true, 0)))
		same(t, "Next then", room.Shadow.Old.Next, 26)
		same(t, "how many rest then", impl.OldCount(room.Shadow.Old), impl.MaxRest)
	}
}

// Promise 20 of long rows of commands of every Kind, with some that are no old ones.
func TestShadowRunOfLongRows(t *testing.T) {
	for seed := range int64(30) {
		random := rand.New(rand.NewSource(seed))
		spread, most := random.Int63n(15)+1, random.Int63n(40)+1
		b := impl.OldNew()
		var l []impl.Cmd
		seen := map[int64]int{}
		for range impl.MaxList {
			c := someOldCmd(random, b, spread, most)
			if seed%3 == 1 && random.Intn(9) == 0 {
				c = newCmds()[random.Intn(len(newCmds()))]
			}
			if seed%3 == 2 && random.Intn(9) == 0 {
				c.Owner = []int64{0, 10, -1}[random.Intn(3)]
			}
			l = append(l, c)
			out := impl.OldDo(b, c)
			seen[out.Code]++
			if out.Code == impl.OK {
				b = out.Old
			}
		}
		got := shadowRuns(t, fmt.Sprint("seed ", seed), l)
		alike(t, "the older book", got.Shadow.Old, b)
		alike(t, "the newer book", got.Shadow.New, newFromOld(b))
		if seen[impl.OK] < 100 || seen[impl.ErrNone] == 0 || len(got.Events) < 200 || seed%3 == 1 && seen[impl.ErrNew] < 10 {
			t.Errorf("a row of little worth: %v", seen)
		}
	}
}

// At the limits of Price and of Amount.
func TestShadowRunAtTheLimitsOfNumbers(t *testing.T) {
	for seed := range int64(12) {
		random := rand.New(rand.NewSource(seed))
		var l []impl.Cmd
		for range impl.MaxList {
			price, amount := []int64{1, 2, 9999, 10000}[random.Intn(4)], []int64{1, 2, 999, 1000}[random.Intn(4)]
			c := impl.Cmd{Kind: impl.CmLimit, Owner: []int64{1, 9}[random.Intn(2)], Buy: random.Intn(2) == 0, Price: price, Amount: amount, Life: random.Int63n(4)}
			if id := random.Int63n(40) + 1; random.Intn(4) == 0 {
				c = impl.Cmd{Kind: impl.CmReplace, Owner: c.Owner, Id: id, Price: price, Amount: amount}
			}
			l = append(l, c)
		}
		if got := shadowRuns(t, fmt.Sprint("seed ", seed), l); len(got.Events) < 200 {
			t.Errorf("a row of little worth: %d events", len(got.Events))
		}
	}
}

// divergesAt looks both ways.
func divergesAt(t *testing.T, what string, a []impl.Event, b []impl.Event, want int64) {
	t.Helper()
	beforeA, beforeB := slices.Clone(a), slices.Clone(b)
	same(t, what, impl.Diverged(a, b), want)
	same(t, what+", the other way", impl.Diverged(b, a), want)
	if !slices.Equal(a, beforeA) || !slices.Equal(b, beforeB) {
		t.Errorf("%s: a list is changed", what)
	}
}

func TestDivergedOfAlikeLists(t *testing.T) {
	divergesAt(t, "none", nil, nil, -1)
	divergesAt(t, "an empty list and none", []impl.Event{}, nil, -1)
	divergesAt(t, "with room", make([]impl.Event, 0, 9), []impl.Event{}, -1)
	for _, e := range append(baseEvents(), rightEvents()...) {
		divergesAt(t, textOfEvent(e), []impl.Event{e}, []impl.Event{e}, -1)
	}
	for _, many := range []int{1, 2, 3, 10, impl.MaxList - 1, impl.MaxList} {
		divergesAt(t, fmt.Sprint(many, " alike"), manyEvents(many, fillOf(3, 4)), manyEvents(many, fillOf(3, 4)), -1)
		l := rightEvents()[:many]
		divergesAt(t, fmt.Sprint(many, " of all kinds"), l, slices.Clone(l), -1)
		divergesAt(t, fmt.Sprint(many, ", the same list"), l, l, -1)
	}
}

func TestDivergedOfOneThatHasEnded(t *testing.T) {
	l := append(baseEvents(), baseEvents()...)
	for many := range len(l) {
		divergesAt(t, fmt.Sprint("ended at ", many), l[:many], l, int64(many))
		divergesAt(t, fmt.Sprint("ended one earlier, at ", many), l[:many], l[:many+1], int64(many))
	}
	longest := manyEvents(impl.MaxList, takenOf(7))
	for _, many := range []int{0, 1, 200, impl.MaxList - 1} {
		divergesAt(t, fmt.Sprint("ended at ", many), longest[:many], longest, int64(many))
	}
	// What stands behind a list is not of it.
	divergesAt(t, "what stands behind", l[:3], slices.Clone(l)[:3], -1)
	divergesAt(t, "it differs ahead of the end", append(slices.Clone(l[:2]), takenOf(99)), l, 2)
}

// turnedEvents: an event, each time with one field that is another.
func turnedEvents(e impl.Event) map[string]impl.Event {
	out := map[string]impl.Event{}
	fields := map[string]func(e *impl.Event) *int64{
		"Kind": func(e *impl.Event) *int64 { return &e.Kind }, "Id": func(e *impl.Event) *int64 { return &e.Id }, "Other": func(e *impl.Event) *int64 { return &e.Other },
		"Price": func(e *impl.Event) *int64 { return &e.Price }, "Amount": func(e *impl.Event) *int64 { return &e.Amount },
	}
	for what, field := range fields {
		for _, n := range otherNumbers(*field(&e)) {
			turned := e
			*field(&turned) = n
			out[fmt.Sprint(what, " ", n)] = turned
		}
	}
	return out
}

func TestDivergedInEachFieldAtEachPlace(t *testing.T) {
	l := append(baseEvents(), baseEvents()...)
	for at, e := range l {
		for what, turned := range turnedEvents(e) {
			other := slices.Clone(l)
			other[at] = turned
			divergesAt(t, fmt.Sprintf("%s at %d", what, at), l, other, int64(at))
			divergesAt(t, fmt.Sprintf("%s at %d, and ended behind it", what, at), l, other[:at+1], int64(at))
			if at > 0 {
				other[0] = takenOf(99)
				divergesAt(t, fmt.Sprintf("%s at %d, and at 0", what, at), l, other, 0)
			}
		}
	}
	// Right ones that differ in the Kind alone.
	divergesAt(t, "taken and refused", []impl.Event{takenOf(3)}, []impl.Event{refusalOf(3)}, 0)
	for _, many := range []int{1, 2, 199, impl.MaxList} {
		for _, at := range []int{0, many / 2, many - 1} {
			other := manyEvents(many, takenOf(7))
			other[at].Id++
			divergesAt(t, fmt.Sprintf("of %d at %d", many, at), manyEvents(many, takenOf(7)), other, int64(at))
		}
	}
}

func TestDivergedOfLongLists(t *testing.T) {
	a := manyEvents(impl.MaxList, takenOf(7))
	for _, many := range []int{impl.MaxList + 1, impl.MaxList + 2, 5 * impl.MaxList} {
		l := manyEvents(many, takenOf(7))
		divergesAt(t, fmt.Sprint(many, " and many"), l, a, 0)
		divergesAt(t, fmt.Sprint(many, " and none"), l, nil, 0)
		divergesAt(t, fmt.Sprint(many, " and one"), l, []impl.Event{takenOf(7)}, 0)
		divergesAt(t, fmt.Sprint(many, " alike"), l, slices.Clone(l), 0)
	}
}

// What each make tells of a row of commands diverges just where they are not asked the same.
func TestDivergedOfWhatBothTell(t *testing.T) {
	l := cmdsOf("limit 1 sell 100 5 stay", "limit 2 sell 100 3 day", "limit 3 buy 100 6 stay", "replace 2 2 101 9", "cancel 2 2")
	told := impl.ShadowRun(l).Events
	older, newer := []impl.Event{}, []impl.Event{}
	b, n := impl.OldNew(), impl.NewNew()
	for _, c := range l {
		o, w := impl.OldDo(b, c), impl.NewDo(n, c)
		b, n = o.Old, w.New
		older, newer = append(older, o.Events...), append(newer, w.Events...)
	}
	divergesAt(t, "both", older, newer, -1)
	divergesAt(t, "side by side", older, told, -1)
	divergesAt(t, "with another one at the end", told, impl.ShadowRun(append(l[:4:4], cmdOf("cancel 1 1"))).Events, 6)
	divergesAt(t, "with one less", told, impl.ShadowRun(l[:4]).Events, 6)
	divergesAt(t, "with another one at the beginning", told, impl.ShadowRun(l[1:]).Events, 2)
}

// Lists with room behind them, and all cut from one list: nothing is written there, and nothing of it is told.
func TestShadowDoLeavesWhatStandsBehindAList(t *testing.T) {
	for _, text := range []string{
		"limit 5 buy 100 4 stay", "limit 5 sell 103 4 day", "limit 5 buy 104 40 stay", "limit 5 sell 1 40 day", "limit 5 buy 103 2 all", "market 5 buy 7", "market 5 sell 100",
		"cancel 1 3", "cancel 3 5", "replace 1 3 100 2", "replace 1 3 100 9", "replace 1 3 103 30", "replace 4 4 1 30", "roll", "cancel 9 9",
	} {
		whole, bids, asks := sharedOrders(sharedPlain)
		before := copyOf(whole)
		n, untouched := sharedNew(sharedPlain)
		s := impl.Shadow{Old: impl.Old{Bids: bids, Asks: asks, Next: 7}, New: n}
		same(t, text+": is it right?", impl.ShadowRight(s), true)
		out := shadowTells(t, s, cmdOf(text))
		again := copyOf(out)
		impl.ShadowDo(out.Shadow, cmdOf("market 6 buy 9"))
		_, _ = append(out.Shadow.Old.Bids, impl.Order{Id: 99}), append(out.Shadow.Old.Asks, impl.Order{Id: 98})
		_ = append(out.Events, takenOf(99))
		staysAsTold(t, text, out.Shadow.New, func() {})
		alike(t, text+": told", out, again)
		// What was told is the caller's own.
		for _, o := range placesOf(out.Shadow.New) {
			*o = impl.Order{}
		}
		alike(t, text+": the older one as it was told", out.Shadow.Old, again.Shadow.Old)
		clear(out.Shadow.Old.Bids)
		clear(out.Shadow.Old.Asks)
		clear(out.Shadow.New.Bids)
		clear(out.Shadow.New.Asks)
		clear(out.Events)
		alike(t, text+": what was handed in", whole, before)
		same(t, text+": untouched", untouched(), true)
	}
}

// Both books from one list of orders: neither is changed by what is done to the other.
func TestShadowDoOfBooksThatShareTheirOrders(t *testing.T) {
	for _, text := range []string{"market 5 buy 7", "limit 5 sell 1 40 day", "replace 1 3 100 2", "cancel 1 3", "roll"} {
		orders := ordersOf("3/1:100x5 1/2:100x7d 6/2:99x1 5/3:102x4d 2/1:103x6 4/4:103x9")
		before := slices.Clone(orders)
		s := impl.Shadow{
			Old: impl.Old{Bids: orders[:3], Asks: orders[3:], Next: 7},
			New: impl.New{Bids: []impl.Level{{Price: 100, Orders: orders[:2]}, {Price: 99, Orders: orders[2:3]}}, Asks: []impl.Level{{Price: 102, Orders: orders[3:4]}, {Price: 103, Orders: orders[4:]}}, Next: 7},
		}
		alike(t, text, shadowTells(t, s, cmdOf(text)), shadowByRule(shadowOf(oldOf(someOldText)), cmdOf(text)))
		alike(t, text+": handed in", orders, before)
	}
}

// The same tells the same, whatever was told between.
func TestShadowKeepsNothing(t *testing.T) {
	s, l := shadowOf(oldOf(someOldText)), cmdsOf("limit 1 sell 100 5 stay", "market 2 buy 3")
	did, ran := copyOf(impl.ShadowDo(s, cmdOf("market 1 buy 9"))), copyOf(impl.ShadowRun(l))
	for what, other := range rightShadows() {
		for _, c := range baseCmds() {
			impl.ShadowDo(other, c)
		}
		impl.ShadowRun(baseCmds())
		impl.ShadowRun(manyCmds(impl.MaxList+1, rollOf()))
		impl.ShadowDo(impl.Shadow{}, impl.Cmd{})
		alike(t, what+": done", impl.ShadowDo(s, cmdOf("market 1 buy 9")), did)
		alike(t, what+": run", impl.ShadowRun(l), ran)
	}
}
