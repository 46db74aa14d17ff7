package tests

import (
	"fmt"
	"math"
	"math/rand"
	"regexp"
	"strconv"
	"strings"
	"testing"

	"loop.example/g00446/impl"
)

func takenOf(id int64) impl.Event {
	return impl.Event{Kind: impl.EvTaken, Id: id}
}

func fillOf(id int64, other int64) impl.Event {
	return impl.Event{Kind: impl.EvFill, Id: id, Other: other, Price: 100, Amount: 5}
}

func cutOf(id int64) impl.Event {
	return impl.Event{Kind: impl.EvCut, Id: id, Amount: 6}
}

func changedOf(id int64) impl.Event {
	return impl.Event{Kind: impl.EvChanged, Id: id, Price: 70, Amount: 8}
}

func refusalOf(code int64) impl.Event {
	return impl.Event{Kind: impl.EvRefused, Id: code}
}

// baseEvents: a right one of each Kind.
func baseEvents() []impl.Event {
	return []impl.Event{takenOf(3), fillOf(3, 4), cutOf(3), changedOf(3), refusalOf(3)}
}

// rightEvents are right ones of each Kind, with each number at its limits, in all ways that go together.
func rightEvents() []impl.Event {
	var out []impl.Event
	ids := []int64{1, 2, 10, 20, 21, 305, 999999, impl.MaxTime}
	for code := int64(1); code <= 20; code++ {
		out = append(out, refusalOf(code))
	}
	for _, id := range ids {
		out = append(out, takenOf(id))
		for _, amount := range []int64{1, 10, 999, impl.MaxAmount} {
			out = append(out, impl.Event{Kind: impl.EvCut, Id: id, Amount: amount})
			for _, price := range []int64{1, 20, 9999, impl.MaxPrice} {
				out = append(out, impl.Event{Kind: impl.EvChanged, Id: id, Price: price, Amount: amount})
				for _, other := range ids {
					if other != id {
						out = append(out, impl.Event{Kind: impl.EvFill, Id: id, Other: other, Price: price, Amount: amount})
					}
				}
			}
		}
	}
	return out
}

// textOfEvent writes an event out by the document's words, right or not.
func textOfEvent(e impl.Event) string {
	switch e.Kind {
	case impl.EvTaken:
		return fmt.Sprintf("taken %d", e.Id)
	case impl.EvFill:
		return fmt.Sprintf("fill %d %d %d %d", e.Id, e.Other, e.Price, e.Amount)
	case impl.EvCut:
		return fmt.Sprintf("cut %d %d", e.Id, e.Amount)
	case impl.EvChanged:
		return fmt.Sprintf("changed %d %d %d", e.Id, e.Price, e.Amount)
	case impl.EvRefused:
		return fmt.Sprintf("refused %d", e.Id)
	}
	return ""
}

func textOfEvents(l []impl.Event) string {
	text := ""
	for _, e := range l {
		text += textOfEvent(e) + "\n"
	}
	return text
}

// wrongEvents: each a right one of that Kind, turned in one way only.
func wrongEvents() map[string]impl.Event {
	out := map[string]impl.Event{"the zero one": {}, "a Kind of all zero": {Kind: 6}}
	for _, e := range baseEvents() {
		add := func(what string, turn func(e *impl.Event)) {
			d := e
			turn(&d)
			out[fmt.Sprintf("%s: %+v", what, d)] = d
		}
		for _, kind := range []int64{-1, 0, 6, 7, math.MinInt64, math.MaxInt64} {
			add("a Kind that there is not", func(e *impl.Event) { e.Kind = kind })
		}
		// What is not named for the Kind has 0 in each of baseEvents, and must have.
		wrong := func(named int64, most int64) []int64 {
			if named == 0 {
				return []int64{math.MinInt64, -1, 1, 2, most, math.MaxInt64}
			}
			return []int64{math.MinInt64, -1, 0, most + 1, math.MaxInt64}
		}
		last := int64(impl.MaxTime)
		if e.Kind == impl.EvRefused {
			last = 20
		}
		for _, n := range wrong(e.Id, last) {
			add("Id", func(e *impl.Event) { e.Id = n })
		}
		for _, n := range wrong(e.Other, impl.MaxTime) {
			add("Other", func(e *impl.Event) { e.Other = n })
		}
		for _, n := range wrong(e.Price, impl.MaxPrice) {
			add("Price", func(e *impl.Event) { e.Price = n })
		}
		for _, n := range wrong(e.Amount, impl.MaxAmount) {
			add("Amount", func(e *impl.Event) { e.Amount = n })
		}
	}
	for _, id := range []int64{1, 3, impl.MaxTime} {
		e := fillOf(id, id)
		out[fmt.Sprintf("met itself: %+v", e)] = e
	}
	return out
}

// The numbers of the Kinds are what others store and send, so they stand here as numbers.
func TestEventKinds(t *testing.T) {
	for want, kind := range []int64{0, impl.EvTaken, impl.EvFill, impl.EvCut, impl.EvChanged, impl.EvRefused} {
		same(t, "a Kind", kind, int64(want))
	}
}

func TestEventRight(t *testing.T) {
	for _, e := range append(baseEvents(), rightEvents()...) {
		same(t, textOfEvent(e), impl.EventRight(e), true)
	}
	for what, e := range wrongEvents() {
		same(t, what, impl.EventRight(e), false)
	}
}

// Written out number by number, so that the limits stand here once more beside those of the lists above.
func TestEventRightAtTheLimits(t *testing.T) {
	taken, fill, cut, changed, refusal := takenOf(7), fillOf(7, 8), cutOf(7), changedOf(7), refusalOf(7)
	setId := func(e *impl.Event, n int64) { e.Id = n }
	setOther := func(e *impl.Event, n int64) { e.Other = n }
	setPrice := func(e *impl.Event, n int64) { e.Price = n }
	setAmount := func(e *impl.Event, n int64) { e.Amount = n }
	numbers := []struct {
		what  string
		bases []impl.Event
		least int64
		most  int64
		turn  func(e *impl.Event, n int64)
	}{
		{"Id", []impl.Event{taken, fill, cut, changed}, 1, 1000000, setId},
		{"Id", []impl.Event{refusal}, 1, 20, setId},
		{"Other", []impl.Event{fill}, 1, 1000000, setOther},
		{"Other", []impl.Event{taken, cut, changed, refusal}, 0, 0, setOther},
		{"Price", []impl.Event{fill, changed}, 1, 10000, setPrice},
		{"Price", []impl.Event{taken, cut, refusal}, 0, 0, setPrice},
		{"Amount", []impl.Event{fill, cut, changed}, 1, 1000, setAmount},
		{"Amount", []impl.Event{taken, refusal}, 0, 0, setAmount},
	}
	for _, number := range numbers {
		for _, e := range number.bases {
			for _, n := range []int64{math.MinInt64, -2, -1, 0, 1, 2, 3, 7, 8, 9, 19, 20, 21, 999, 1000, 1001, 9999, 10000, 10001, 999999, 1000000, 1000001, math.MaxInt64} {
				number.turn(&e, n)
				want := n >= number.least && n <= number.most && (e.Kind != impl.EvFill || e.Id != e.Other)
				same(t, fmt.Sprintf("%s %d of %+v", number.what, n, e), impl.EventRight(e), want)
			}
		}
	}
}

func TestEventTextWrittenOut(t *testing.T) {
	texts := map[string]impl.Event{
		"taken 3":                        takenOf(3),
		"taken 1000000":                  takenOf(1000000),
		"fill 3 1 100 5":                 fillOf(3, 1),
		"fill 2 30 400 50":               {Kind: impl.EvFill, Id: 2, Other: 30, Price: 400, Amount: 50},
		"fill 999999 1000000 10000 1000": {Kind: impl.EvFill, Id: 999999, Other: 1000000, Price: 10000, Amount: 1000},
		"cut 3 6":                        cutOf(3),
		"cut 6 3":                        {Kind: impl.EvCut, Id: 6, Amount: 3},
		"changed 2 70 8":                 changedOf(2),
		"changed 1000000 10000 1000":     {Kind: impl.EvChanged, Id: 1000000, Price: 10000, Amount: 1000},
		"refused 1":                      refusalOf(1),
		"refused 20":                     refusalOf(20),
	}
	for text, e := range texts {
		same(t, "text", impl.EventText(e), text)
		same(t, "text with its line feed", impl.EventsText([]impl.Event{e}), text+"\n")
		alike(t, text, impl.EventsRead(text+"\n"), impl.EventsOut{Events: []impl.Event{e}})
	}
	for _, e := range rightEvents() {
		same(t, "text", impl.EventText(e), textOfEvent(e))
	}
	for what, e := range wrongEvents() {
		same(t, what, impl.EventText(e), "")
	}
	same(t, "of each Kind", impl.EventsText(baseEvents()), "taken 3\nfill 3 4 100 5\ncut 3 6\nchanged 3 70 8\nrefused 3\n")
}

// comesBack: are these events read from their text, and is it the one that the document says?
func comesBack(t *testing.T, what string, l []impl.Event) {
	t.Helper()
	before := copyOf(l)
	text := impl.EventsText(l)
	same(t, what+": the text", text, textOfEvents(before))
	alike(t, what, impl.EventsRead(text), impl.EventsOut{Events: before})
	alike(t, what+": what was handed in", l, before)
}

// Promise 7.
func TestEventsComeBack(t *testing.T) {
	comesBack(t, "none", nil)
	comesBack(t, "an empty list", []impl.Event{})
	right := rightEvents()
	for _, e := range right {
		comesBack(t, textOfEvent(e), []impl.Event{e})
		comesBack(t, "twice", []impl.Event{e, e})
		for _, other := range baseEvents() {
			comesBack(t, "two", []impl.Event{e, other})
			comesBack(t, "two", []impl.Event{other, e})
		}
	}
	for from := 0; from < len(right); from += 100 {
		comesBack(t, "many", right[from:min(from+100, len(right))])
	}
}

func TestEventsComeBackOfAllNumbers(t *testing.T) {
	for n := int64(1); n <= impl.MaxPrice; n++ {
		amount, id := n%impl.MaxAmount+1, n*100
		comesBack(t, "all numbers", []impl.Event{
			takenOf(id),
			{Kind: impl.EvFill, Id: id, Other: n * 99, Price: n, Amount: amount},
			{Kind: impl.EvFill, Id: n, Other: id, Price: impl.MaxPrice + 1 - n, Amount: amount},
			{Kind: impl.EvCut, Id: id - 1, Amount: amount},
			{Kind: impl.EvChanged, Id: n, Price: n, Amount: amount},
			refusalOf(n%20 + 1),
		})
	}
}

func TestEventsTextOfOneThatIsNotRight(t *testing.T) {
	for what, wrong := range wrongEvents() {
		same(t, what+", alone", impl.EventsText([]impl.Event{wrong}), "")
		for at := range len(baseEvents()) + 1 {
			base := baseEvents()
			l := append(append(append([]impl.Event{}, base[:at]...), wrong), base[at:]...)
			same(t, what+", among right ones", impl.EventsText(l), "")
		}
	}
	full := manyEvents(impl.MaxList, takenOf(1))
	for _, at := range []int{0, 200, impl.MaxList - 1} {
		l := copyOf(full)
		l[at] = impl.Event{}
		same(t, "a zero one among many", impl.EventsText(l), "")
	}
}

func manyEvents(many int, e impl.Event) []impl.Event {
	l := make([]impl.Event, many)
	for i := range l {
		l[i] = e
	}
	return l
}

func TestEventsTextOfLongLists(t *testing.T) {
	for _, e := range baseEvents() {
		for _, many := range []int{impl.MaxList - 1, impl.MaxList} {
			comesBack(t, fmt.Sprintf("%d of %s", many, textOfEvent(e)), manyEvents(many, e))
		}
		for _, many := range []int{impl.MaxList + 1, impl.MaxList + 2, 3 * impl.MaxList} {
			same(t, fmt.Sprintf("%d of %s", many, textOfEvent(e)), impl.EventsText(manyEvents(many, e)), "")
		}
	}
}

func TestEventsTextOfMaxBytes(t *testing.T) {
	fill := fillOf(100, 1001) // 20 bytes with the line feed
	full := manyEvents(impl.MaxList, fill)
	same(t, "bytes", len(textOfEvents(full)), impl.MaxBytes)
	comesBack(t, "MaxBytes bytes", full)
	for _, at := range []int{0, 200, impl.MaxList - 1} {
		less, more := copyOf(full), copyOf(full)
		less[at].Id = 10
		comesBack(t, "a byte less", less)
		more[at].Id = 1000
		same(t, "bytes", len(textOfEvents(more)), impl.MaxBytes+1)
		same(t, "a byte more", impl.EventsText(more), "")
	}
	most := impl.Event{Kind: impl.EvFill, Id: 999999, Other: 1000000, Price: 10000, Amount: 1000} // 31 bytes
	comesBack(t, "258 of the longest ones", manyEvents(258, most))
	same(t, "259 of the longest ones", impl.EventsText(manyEvents(259, most)), "")
	same(t, "MaxList of the longest ones", impl.EventsText(manyEvents(impl.MaxList, most)), "")
	same(t, "bytes", len(textOfEvents(append(manyEvents(257, most), manyEvents(4, takenOf(1))...))), 7999)
	comesBack(t, "fewer events, nearly MaxBytes bytes", append(manyEvents(257, most), manyEvents(4, takenOf(1))...))
	comesBack(t, "fewer events, MaxBytes bytes", append(append(manyEvents(257, most), manyEvents(3, takenOf(1))...), takenOf(10)))
	same(t, "fewer events, a byte more", impl.EventsText(append(append(manyEvents(257, most), manyEvents(3, takenOf(1))...), takenOf(100))), "")
}

// eventsRefused: no events are read from that text.
func eventsRefused(t *testing.T, text string) {
	t.Helper()
	alike(t, fmt.Sprintf("%.100q", text), impl.EventsRead(text), impl.EventsOut{Code: impl.ErrSyntax})
}

// lineRefused: not alone, nor among right lines.
func lineRefused(t *testing.T, line string) {
	t.Helper()
	eventsRefused(t, line+"\n")
	eventsRefused(t, line)
	eventsRefused(t, "taken 3\n"+line+"\n")
	eventsRefused(t, line+"\ntaken 3\n")
	eventsRefused(t, "taken 3\n"+line+"\nfill 3 4 100 5\n")
}

// The texts of events as one rule a Kind; the numbers' limits are asked behind it.
var (
	takenRule   = regexp.MustCompile(`^taken ([1-9][0-9]{0,6})$`)
	fillRule    = regexp.MustCompile(`^fill ([1-9][0-9]{0,6}) ([1-9][0-9]{0,6}) ([1-9][0-9]{0,4}) ([1-9][0-9]{0,3})$`)
	cutRule     = regexp.MustCompile(`^cut ([1-9][0-9]{0,6}) ([1-9][0-9]{0,3})$`)
	changedRule = regexp.MustCompile(`^changed ([1-9][0-9]{0,6}) ([1-9][0-9]{0,4}) ([1-9][0-9]{0,3})$`)
	refusedRule = regexp.MustCompile(`^refused ([1-9]|1[0-9]|20)$`)
)

// eventByRule is told by the document's words, in another way than the program's.
func eventByRule(line string) (impl.Event, bool) {
	num := func(digits string) int64 {
		n, _ := strconv.ParseInt(digits, 10, 64)
		return n
	}
	var e impl.Event
	if m := takenRule.FindStringSubmatch(line); m != nil {
		e = impl.Event{Kind: impl.EvTaken, Id: num(m[1])}
	} else if m := fillRule.FindStringSubmatch(line); m != nil {
		e = impl.Event{Kind: impl.EvFill, Id: num(m[1]), Other: num(m[2]), Price: num(m[3]), Amount: num(m[4])}
		if e.Id == e.Other {
			return impl.Event{}, false
		}
	} else if m := cutRule.FindStringSubmatch(line); m != nil {
		e = impl.Event{Kind: impl.EvCut, Id: num(m[1]), Amount: num(m[2])}
	} else if m := changedRule.FindStringSubmatch(line); m != nil {
		e = impl.Event{Kind: impl.EvChanged, Id: num(m[1]), Price: num(m[2]), Amount: num(m[3])}
	} else if m := refusedRule.FindStringSubmatch(line); m != nil {
		e = impl.Event{Kind: impl.EvRefused, Id: num(m[1])}
	} else {
		return impl.Event{}, false
	}
	return e, e.Id <= 1000000 && e.Other <= 1000000 && e.Price <= 10000 && e.Amount <= 1000
}

func eventsByRule(text string) impl.EventsOut {
	lines := strings.Split(text, "\n")
	var events []impl.Event
	for _, line := range lines[:len(lines)-1] {
		e, right := eventByRule(line)
		if !right {
			return impl.EventsOut{Code: impl.ErrSyntax}
		}
		events = append(events, e)
	}
	if lines[len(lines)-1] != "" {
		return impl.EventsOut{Code: impl.ErrSyntax}
	}
	return impl.EventsOut{Events: events}
}

func eventsReadByRule(t *testing.T, text string) {
	t.Helper()
	alike(t, fmt.Sprintf("%.100q", text), impl.EventsRead(text), eventsByRule(text))
}

// eventLines: a right line of each Kind.
func eventLines() []string {
	return []string{"taken 30", "fill 30 4 100 50", "cut 30 60", "changed 30 70 80", "refused 12"}
}

func TestEventsReadOfLines(t *testing.T) {
	alike(t, "the empty text", impl.EventsRead(""), impl.EventsOut{})
	all := strings.Join(eventLines(), "\n")
	for _, line := range append(eventLines(), all) {
		eventsRefused(t, line)
		eventsRefused(t, "\n"+line)
		eventsRefused(t, "\n"+line+"\n")
		eventsRefused(t, line+"\n\n")
		eventsRefused(t, line+"\n\n"+line+"\n")
		eventsRefused(t, line+"\n"+line)
		eventsRefused(t, line+"\r\n")
		eventsRefused(t, line+"\r")
		eventsRefused(t, line+";")
		eventsRefused(t, line+"\n ")
		eventsRefused(t, line+"\n\x00")
		eventsReadByRule(t, line+"\n")
		eventsReadByRule(t, line+"\n"+line+"\n")
		same(t, "with its line feeds", impl.EventsRead(line+"\n").Code, int64(impl.OK))
	}
	for _, text := range []string{"\n", "\n\n", " ", " \n", "\t\n", "\r\n", "\x00", "\x00\n"} {
		eventsRefused(t, text)
	}
	for at := range len(all) {
		eventsReadByRule(t, all[:at])
		eventsReadByRule(t, all[at:]+"\n")
	}
}

func TestEventsReadOfNumbersThatMayNotBe(t *testing.T) {
	for _, line := range []string{
		"taken 0", "taken 1000001", "fill 0 1 1 1", "fill 1000001 1 1 1", "fill 1 0 1 1", "fill 1 1000001 1 1",
		"fill 1 2 0 1", "fill 1 2 10001 1", "fill 1 2 1 0", "fill 1 2 1 1001", "fill 1 1 1 1", "fill 1000000 1000000 1 1",
		"cut 0 1", "cut 1000001 1", "cut 1 0", "cut 1 1001", "changed 0 1 1", "changed 1000001 1 1", "changed 1 0 1",
		"changed 1 10001 1", "changed 1 1 0", "changed 1 1 1001", "refused 0", "refused 21", "refused 100", "refused 1000000",
	} {
		lineRefused(t, line)
	}
	for _, e := range wrongEvents() {
		eventsReadByRule(t, textOfEvent(e)+"\n")
	}
}

func TestEventsReadOfNumbersWrittenElse(t *testing.T) {
	others := []string{"-%s", "+%s", "0%s", "00%s", "%s.0", "%s0000000", "%s,", "0x%s", "%s_0", "'%s", "%se0", "\u0663%s", "%s\u00b2", "\uff11%s"}
	for _, line := range eventLines() {
		words := strings.Split(line, " ")
		for at, word := range words[1:] {
			var turned []string
			for _, other := range others {
				turned = append(turned, strings.Replace(other, "%s", word, 1))
			}
			turned = append(turned, "", "0", "-0", "00", "x", "\u0663", "\uff11", "9223372036854775807", "9223372036854775808", "18446744073709551617",
				"1"+strings.Repeat("0", 64), strings.Repeat("9", 4000), strings.Repeat("0", 4000)+word, word+"\x00", "\xff"+word)
			// 2^64 more wraps round to the number itself.
			for _, wrap := range []string{"18446744073709551616", "4294967296"} {
				turned = append(turned, addDigits(wrap, word))
			}
			for _, other := range turned {
				lineRefused(t, strings.Join(replaced(words, at+1, other), " "))
			}
		}
	}
}

func TestEventsReadOfBlanks(t *testing.T) {
	for _, line := range eventLines() {
		for _, blank := range []string{" ", "  ", "\t", "\r", "\x00", "\u00a0", "\u3000"} {
			lineRefused(t, blank+line)
			lineRefused(t, line+blank)
			lineRefused(t, blank+line+blank)
		}
		for at := range line {
			if line[at] != ' ' {
				continue
			}
			for _, other := range []string{"", "  ", "   ", "\t", "\n", "_", ",", " \t", "\u00a0", "\x00"} {
				lineRefused(t, line[:at]+other+line[at+1:])
			}
		}
		lineRefused(t, strings.ToUpper(line))
		lineRefused(t, strings.ToUpper(line[:1])+line[1:])
	}
}

func TestEventsReadOfWordsOutOfPlace(t *testing.T) {
	more := []string{"taken", "fill", "cut", "changed", "refused", "limit", "roll", "buy", "1", "2", "0", "x", ""}
	for _, line := range eventLines() {
		words := strings.Split(line, " ")
		for at := range words {
			eventsReadByRule(t, strings.Join(words[:at], " ")+"\n")
			eventsReadByRule(t, strings.Join(words[at:], " ")+"\n")
			eventsReadByRule(t, strings.Join(append(append([]string{}, words[:at]...), words[at+1:]...), " ")+"\n")
			for _, word := range more {
				eventsReadByRule(t, strings.Join(replaced(words, at, word), " ")+"\n")
				eventsReadByRule(t, strings.Join(append(append(append([]string{}, words[:at]...), word), words[at:]...), " ")+"\n")
			}
			for to := range words {
				turned := append([]string{}, words...)
				turned[at], turned[to] = turned[to], turned[at]
				eventsReadByRule(t, strings.Join(turned, " ")+"\n")
			}
		}
		for _, word := range append(more, words...) {
			eventsRefused(t, line+" "+word+"\n")
		}
		lineRefused(t, line+" "+line)
	}
	for _, line := range []string{
		"taken", "taken 1 2", "taken 1 taken 2", "taken taken 1", "takens 1", "take 1", "1 taken", "fill", "fill 1", "fill 1 2", "fill 1 2 3", "fill 1 2 3 4 5",
		"cut", "cut 1", "cut 1 2 3", "cuts 1 2", "changed", "changed 1", "changed 1 2", "changed 1 2 3 4", "refused", "refused 1 2", "refuse 1",
		"limit 3 buy 100 5 stay", "roll", "cancel 1 1", "1", "1 1", "1 2 1 1", "fills 1 2 3 4", "filled 1 2 3 4", "change 1 2 3",
	} {
		lineRefused(t, line)
	}
}

func TestEventsReadOfBytesThatAreNoText(t *testing.T) {
	odd := []string{"\xff", "\x80", "\xc3\x28", "\xed\xa0\x80", "\xf0\x9f", "\u00e9", "\u0131", "\ufffd", "\ufeff", "\u200b", "\u2028", "\u0665", "\U0001d7d9", "\x00", "\x7f"}
	for _, line := range eventLines() {
		text := line + "\n"
		for at := range len(text) + 1 {
			for _, bytes := range odd {
				eventsRefused(t, text[:at]+bytes+text[at:])
				if at < len(text) {
					eventsRefused(t, text[:at]+bytes+text[at+1:])
				}
			}
		}
	}
}

// A list that is told has no limit but that of the text it is told from.
func TestEventsReadOfMoreThanMaxList(t *testing.T) {
	for _, e := range []impl.Event{takenOf(1), {Kind: impl.EvCut, Id: 1, Amount: 1}} {
		line := textOfEvent(e) + "\n" // 8 bytes
		for _, many := range []int{impl.MaxList - 1, impl.MaxList, impl.MaxList + 1, 999, impl.MaxBytes / 8} {
			out := impl.EventsRead(strings.Repeat(line, many))
			alike(t, fmt.Sprintf("%d lines", many), out, impl.EventsOut{Events: manyEvents(many, e)})
			if many > impl.MaxList {
				same(t, "handed in again", impl.EventsText(out.Events), "")
			}
		}
	}
	refusal := strings.Repeat("refused 1\n", impl.MaxBytes/10)
	alike(t, "800 lines", impl.EventsRead(refusal), impl.EventsOut{Events: manyEvents(800, refusalOf(1))})
}

func TestEventsReadOfLongTexts(t *testing.T) {
	size := impl.EventsOut{Code: impl.ErrSize}
	full := strings.Repeat("taken 1\n", impl.MaxBytes/8)
	same(t, "MaxBytes bytes", impl.EventsRead(full).Code, int64(impl.OK))
	eventsRefused(t, full[:impl.MaxBytes-1])
	eventsRefused(t, full[:impl.MaxBytes-1]+"1")
	eventsRefused(t, full[:impl.MaxBytes-1]+" ")
	alike(t, "all right but a byte too long", impl.EventsRead(full[8:]+"taken 10\n"), size)
	alike(t, "a line feed too long", impl.EventsRead(full+"\n"), size)
	alike(t, "a line too long", impl.EventsRead(full+"taken 1\n"), size)
	for _, fill := range []string{" ", "0", "9", "a", "\n", "\xff", "taken 1\n", "taken ", "1 ", "fill 1 2 3 4\n", "\u00e9"} {
		for _, ahead := range append(eventLines(), "") {
			whole := ahead + strings.Repeat(fill, 2*impl.MaxBytes)
			eventsReadByRule(t, whole[:impl.MaxBytes])
			eventsReadByRule(t, whole[:impl.MaxBytes-1]+"\n")
			for _, bytes := range []int{impl.MaxBytes + 1, impl.MaxBytes + 2, 2 * impl.MaxBytes} {
				alike(t, "too long, of "+strconv.Quote(fill), impl.EventsRead(whole[:bytes]), size)
			}
		}
	}
	alike(t, "too long", impl.EventsRead(tooLong()), size)
	eventsRefused(t, long(impl.MaxBytes))
}

// TestEventsReadOfAnyWords holds many rows of words against the rules.
func TestEventsReadOfAnyWords(t *testing.T) {
	random := rand.New(rand.NewSource(7))
	words := []string{"taken", "fill", "cut", "changed", "refused", "0", "1", "2", "9", "10", "20", "21", "50", "1000", "1001", "10000", "10001",
		"1000000", "1000001", "01", "-1", "x", "", "\n", "1\ntaken"}
	for range 40000 {
		text := ""
		for range random.Intn(4) {
			row := strings.Split(eventLines()[random.Intn(len(eventLines()))], " ")
			for range max(random.Intn(6)-3, 0) {
				row = replaced(row, random.Intn(len(row)), words[random.Intn(len(words))])
				if random.Intn(4) == 0 {
					row = append(row, words[random.Intn(len(words))])
				}
			}
			text += strings.Join(row, " ") + "\n"
		}
		eventsReadByRule(t, text)
	}
}

func TestEventsAreNewMemory(t *testing.T) {
	given := append(baseEvents(), baseEvents()...)[:5] // with room behind it
	before := copyOf(given)
	text := impl.EventsText(given)
	fresh(t, "the text", text, given)
	again := made(text)
	out := impl.EventsRead(again)
	fresh(t, "the events", out, again, given)
	out.Events[0] = impl.Event{}
	_ = append(out.Events, impl.Event{})
	alike(t, "what was handed in", given, before)
	alike(t, "what stood behind it", given[:10][5:], before)
	same(t, "the text that was handed in", again, textOfEvents(before))
	alike(t, "once more", impl.EventsRead(again), impl.EventsOut{Events: before})
	same(t, "what was told", text, textOfEvents(before))
}
