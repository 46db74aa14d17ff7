package tests

import (
	"fmt"
	"math"
	"math/rand"
	"regexp"
	"strconv"
	"strings"
	"testing"

	"loop.example/g00446/impl"
)

func limitOf(buy bool, life int64) impl.Cmd {
	return impl.Cmd{Kind: impl.CmLimit, Owner: 3, Buy: buy, Price: 100, Amount: 50, Life: life}
}

func marketOf(buy bool) impl.Cmd {
	return impl.Cmd{Kind: impl.CmMarket, Owner: 4, Buy: buy, Amount: 60}
}

func cancelOf(id int64) impl.Cmd {
	return impl.Cmd{Kind: impl.CmCancel, Owner: 5, Id: id}
}

func replaceOf(id int64) impl.Cmd {
	return impl.Cmd{Kind: impl.CmReplace, Owner: 6, Id: id, Price: 70, Amount: 80}
}

func rollOf() impl.Cmd {
	return impl.Cmd{Kind: impl.CmRoll}
}

// baseCmds: a right one of each Kind, and of CmLimit one of each Life.
func baseCmds() []impl.Cmd {
	return []impl.Cmd{limitOf(true, impl.LfStay), limitOf(false, impl.LfDay), limitOf(true, impl.LfNow), limitOf(false, impl.LfAll),
		marketOf(true), marketOf(false), cancelOf(90), replaceOf(90), rollOf()}
}

// rightCmds are right ones of each Kind, with each number at its limits, in all ways that go together.
func rightCmds() []impl.Cmd {
	out := []impl.Cmd{rollOf()}
	for _, owner := range []int64{1, 2, 9} {
		for _, amount := range []int64{1, 2, 10, 999, impl.MaxAmount} {
			for _, price := range []int64{1, 20, 9999, impl.MaxPrice} {
				for _, buy := range []bool{true, false} {
					out = append(out, rightLimits(impl.Cmd{Kind: impl.CmLimit, Owner: owner, Buy: buy, Price: price, Amount: amount})...)
				}
				for _, id := range []int64{1, 305, impl.MaxTime} {
					out = append(out, impl.Cmd{Kind: impl.CmReplace, Owner: owner, Id: id, Price: price, Amount: amount})
				}
			}
			out = append(out, impl.Cmd{Kind: impl.CmMarket, Owner: owner, Buy: true, Amount: amount}, impl.Cmd{Kind: impl.CmMarket, Owner: owner, Amount: amount})
		}
		for _, id := range []int64{1, 10, 999999, impl.MaxTime} {
			out = append(out, impl.Cmd{Kind: impl.CmCancel, Owner: owner, Id: id})
		}
	}
	return out
}

// rightLimits: c of each Life, with and without Post, Peak and Guard.
func rightLimits(c impl.Cmd) []impl.Cmd {
	var out []impl.Cmd
	for _, guard := range []bool{false, true} {
		c.Guard = guard
		for _, life := range []int64{impl.LfStay, impl.LfDay} {
			for _, post := range []bool{false, true} {
				for _, peak := range []int64{0, 1, c.Amount} {
					d := c
					d.Life, d.Post, d.Peak = life, post, peak
					out = append(out, d)
				}
			}
		}
		for _, life := range []int64{impl.LfNow, impl.LfAll} {
			d := c
			d.Life = life
			out = append(out, d)
		}
	}
	return out
}

// textOfCmd writes a command out by the document's words, right or not.
func textOfCmd(c impl.Cmd) string {
	side := map[bool]string{true: "buy", false: "sell"}[c.Buy]
	switch c.Kind {
	case impl.CmLimit:
		text := fmt.Sprintf("limit %d %s %d %d %s", c.Owner, side, c.Price, c.Amount, map[int64]string{0: "stay", 1: "day", 2: "now", 3: "all"}[c.Life])
		if c.Post {
			text += " post"
		}
		if c.Peak != 0 {
			text += fmt.Sprintf(" peak %d", c.Peak)
		}
		if c.Guard {
			text += " guard"
		}
		return text
	case impl.CmMarket:
		return fmt.Sprintf("market %d %s %d", c.Owner, side, c.Amount)
	case impl.CmCancel:
		return fmt.Sprintf("cancel %d %d", c.Owner, c.Id)
	case impl.CmReplace:
		return fmt.Sprintf("replace %d %d %d %d", c.Owner, c.Id, c.Price, c.Amount)
	case impl.CmRoll:
		return "roll"
	}
	return ""
}

// wrongCmds: each a right one of that Kind, turned in one way only.
func wrongCmds() map[string]impl.Cmd {
	out := map[string]impl.Cmd{"the zero one": {}, "a Kind of all zero": {Kind: 6}}
	for i, c := range baseCmds() {
		add := func(what string, turn func(c *impl.Cmd)) {
			d := c
			turn(&d)
			out[fmt.Sprintf("%d: %s: %+v", i, what, d)] = d
		}
		for _, kind := range []int64{-1, 0, 6, 7, math.MinInt64, math.MaxInt64} {
			add("a Kind that there is not", func(c *impl.Cmd) { c.Kind = kind })
		}
		addOutside(add, c)
		addNotNamed(add, c)
		addNotTogether(add, c)
	}
	return out
}

// addOutside: a number that is named for the Kind, outside its limits.
func addOutside(add func(what string, turn func(c *impl.Cmd)), c impl.Cmd) {
	beyond := func(most int64) []int64 {
		return []int64{math.MinInt64, -1, 0, most + 1, math.MaxInt64}
	}
	if c.Owner != 0 {
		for _, n := range beyond(9) {
			add("Owner", func(c *impl.Cmd) { c.Owner = n })
		}
	}
	if c.Id != 0 {
		for _, n := range beyond(impl.MaxTime) {
			add("Id", func(c *impl.Cmd) { c.Id = n })
		}
	}
	if c.Price != 0 {
		for _, n := range beyond(impl.MaxPrice) {
			add("Price", func(c *impl.Cmd) { c.Price = n })
		}
	}
	if c.Amount != 0 {
		for _, n := range beyond(impl.MaxAmount) {
			add("Amount", func(c *impl.Cmd) { c.Amount = n })
		}
	}
	if c.Kind == impl.CmLimit {
		for _, n := range []int64{math.MinInt64, -1, 4, math.MaxInt64} {
			add("Life", func(c *impl.Cmd) { c.Life = n })
		}
		for _, n := range []int64{math.MinInt64, -1, c.Amount + 1, math.MaxInt64} {
			add("Peak", func(c *impl.Cmd) { c.Peak = n })
		}
	}
}

// addNotNamed: what is not named for the Kind is not zero.
func addNotNamed(add func(what string, turn func(c *impl.Cmd)), c impl.Cmd) {
	limit, roll := c.Kind == impl.CmLimit, c.Kind == impl.CmRoll
	for _, n := range []int64{math.MinInt64, -1, 1, 2} {
		if roll {
			add("an Owner", func(c *impl.Cmd) { c.Owner = n })
		}
		if c.Kind != impl.CmCancel && c.Kind != impl.CmReplace {
			add("an Id", func(c *impl.Cmd) { c.Id = n })
		}
		if !limit && c.Kind != impl.CmReplace {
			add("a Price", func(c *impl.Cmd) { c.Price = n })
		}
		if roll || c.Kind == impl.CmCancel {
			add("an Amount", func(c *impl.Cmd) { c.Amount = n })
		}
		if !limit {
			add("a Life", func(c *impl.Cmd) { c.Life = n })
			add("a Peak", func(c *impl.Cmd) { c.Peak = n })
		}
	}
	if !limit {
		add("Post", func(c *impl.Cmd) { c.Post = true })
		add("Guard", func(c *impl.Cmd) { c.Guard = true })
	}
	if !limit && c.Kind != impl.CmMarket {
		add("Buy", func(c *impl.Cmd) { c.Buy = true })
	}
}

// addNotTogether: Post and Peak are with LfStay and LfDay only.
func addNotTogether(add func(what string, turn func(c *impl.Cmd)), c impl.Cmd) {
	if c.Kind != impl.CmLimit || c.Life < impl.LfNow {
		return
	}
	add("Post", func(c *impl.Cmd) { c.Post = true })
	add("Post and Guard", func(c *impl.Cmd) { c.Post, c.Guard = true, true })
	add("Post and Peak", func(c *impl.Cmd) { c.Post, c.Peak = true, 1 })
	for _, peak := range []int64{1, c.Amount} {
		add("Peak", func(c *impl.Cmd) { c.Peak = peak })
		add("Peak and Guard", func(c *impl.Cmd) { c.Peak, c.Guard = peak, true })
	}
}

func TestCmdRight(t *testing.T) {
	for _, c := range append(baseCmds(), rightCmds()...) {
		same(t, textOfCmd(c), impl.CmdRight(c), true)
	}
	for what, c := range wrongCmds() {
		same(t, what, impl.CmdRight(c), false)
	}
}

// Written out number by number, so that the limits stand here once more beside those of the lists above.
func TestCmdRightAtTheLimits(t *testing.T) {
	numbers := []struct {
		what  string
		bases []impl.Cmd
		least int64
		most  int64
		turn  func(c *impl.Cmd, n int64)
	}{
		{"Owner", []impl.Cmd{limitOf(true, 0), marketOf(true), cancelOf(1), replaceOf(1)}, 1, 9, func(c *impl.Cmd, n int64) { c.Owner = n }},
		{"Id", []impl.Cmd{cancelOf(1), replaceOf(1)}, 1, 1000000, func(c *impl.Cmd, n int64) { c.Id = n }},
		{"Id", []impl.Cmd{limitOf(false, 0), marketOf(true), rollOf()}, 0, 0, func(c *impl.Cmd, n int64) { c.Id = n }},
		{"Price", []impl.Cmd{limitOf(true, 0), limitOf(false, 3), replaceOf(1)}, 1, 10000, func(c *impl.Cmd, n int64) { c.Price = n }},
		{"Price", []impl.Cmd{marketOf(true), cancelOf(1), rollOf()}, 0, 0, func(c *impl.Cmd, n int64) { c.Price = n }},
		{"Amount", []impl.Cmd{limitOf(true, 0), limitOf(false, 2), marketOf(true), replaceOf(1)}, 1, 1000, func(c *impl.Cmd, n int64) { c.Amount = n }},
		{"Amount", []impl.Cmd{cancelOf(1), rollOf()}, 0, 0, func(c *impl.Cmd, n int64) { c.Amount = n }},
		{"Life", []impl.Cmd{limitOf(true, 0), limitOf(false, 0)}, 0, 3, func(c *impl.Cmd, n int64) { c.Life = n }},
		{"Life", []impl.Cmd{marketOf(true), cancelOf(1), replaceOf(1), rollOf()}, 0, 0, func(c *impl.Cmd, n int64) { c.Life = n }},
		{"Peak", []impl.Cmd{limitOf(true, 0), limitOf(false, 1)}, 0, 50, func(c *impl.Cmd, n int64) { c.Peak = n }},
		{"Peak", []impl.Cmd{limitOf(true, 2), limitOf(false, 3), marketOf(false), cancelOf(1), replaceOf(1), rollOf()}, 0, 0, func(c *impl.Cmd, n int64) { c.Peak = n }},
	}
	for _, number := range numbers {
		for _, c := range number.bases {
			for _, n := range []int64{math.MinInt64, -2, -1, 0, 1, 2, 3, 4, 9, 10, 49, 50, 51, 999, 1000, 1001, 9999, 10000, 10001, 999999, 1000000, 1000001, math.MaxInt64} {
				number.turn(&c, n)
				what := fmt.Sprintf("%s %d of %+v", number.what, n, c)
				same(t, what, impl.CmdRight(c), n >= number.least && n <= number.most)
			}
		}
	}
}

func TestCmdOld(t *testing.T) {
	olds, news := 0, 0
	for _, c := range rightCmds() {
		old := !c.Post && c.Peak == 0 && !c.Guard
		same(t, textOfCmd(c), impl.CmdOld(c), old)
		if old {
			olds++
		} else {
			news++
		}
	}
	if olds == 0 || news == 0 {
		t.Errorf("of both there must be some: %d old ones, %d others", olds, news)
	}
	for what, c := range wrongCmds() {
		same(t, what, impl.CmdOld(c), false)
	}
	for what, turn := range map[string]func(c *impl.Cmd){
		"Post":  func(c *impl.Cmd) { c.Post = true },
		"Peak":  func(c *impl.Cmd) { c.Peak = 1 },
		"Guard": func(c *impl.Cmd) { c.Guard = true },
	} {
		c := limitOf(true, impl.LfDay)
		same(t, "without "+what, impl.CmdOld(c), true)
		turn(&c)
		same(t, "right with "+what, impl.CmdRight(c), true)
		same(t, "with "+what, impl.CmdOld(c), false)
	}
}

func TestCmdTextWrittenOut(t *testing.T) {
	all := impl.Cmd{Kind: impl.CmLimit, Owner: 9, Price: 10000, Amount: 1000, Life: impl.LfDay, Post: true, Peak: 1000, Guard: true}
	texts := map[string]impl.Cmd{
		"limit 3 buy 100 50 stay": limitOf(true, impl.LfStay),
		"limit 3 sell 100 50 day": limitOf(false, impl.LfDay),
		"limit 3 buy 100 50 now":  limitOf(true, impl.LfNow),
		"limit 3 sell 100 50 all": limitOf(false, impl.LfAll),
		"market 4 buy 60":         marketOf(true),
		"market 4 sell 60":        marketOf(false),
		"cancel 5 1000000":        cancelOf(1000000),
		"replace 6 7 70 80":       replaceOf(7),
		"roll":                    rollOf(),
		"limit 9 sell 10000 1000 day post peak 1000 guard": all,
		"limit 1 buy 1 1 all guard":                        {Kind: impl.CmLimit, Owner: 1, Buy: true, Price: 1, Amount: 1, Life: impl.LfAll, Guard: true},
		"limit 1 buy 1 1 stay peak 1":                      {Kind: impl.CmLimit, Owner: 1, Buy: true, Price: 1, Amount: 1, Peak: 1},
		"limit 1 buy 1 1 stay post guard":                  {Kind: impl.CmLimit, Owner: 1, Buy: true, Price: 1, Amount: 1, Post: true, Guard: true},
	}
	for text, c := range texts {
		same(t, "text", impl.CmdText(c), text)
		same(t, text, impl.CmdRead(text), impl.CmdOut{Cmd: c})
	}
	for _, c := range rightCmds() {
		same(t, "text", impl.CmdText(c), textOfCmd(c))
	}
	for what, c := range wrongCmds() {
		same(t, what, impl.CmdText(c), "")
	}
}

// Promise 6.
func TestCmdComesBack(t *testing.T) {
	for _, c := range rightCmds() {
		text := impl.CmdText(c)
		same(t, text, impl.CmdRead(text), impl.CmdOut{Cmd: c})
		same(t, text+": read as if alone", impl.CmdRead(made(textOfCmd(c))), impl.CmdOut{Cmd: c})
		want := impl.CmdOut{Cmd: c}
		if !impl.CmdOld(c) {
			want = impl.CmdOut{Code: impl.ErrNew}
		}
		same(t, text+": of an old client", impl.CmdReadOld(text), want)
	}
}

// Each number of each Kind in all its length.
func TestCmdComesBackOfAllNumbers(t *testing.T) {
	for n := int64(1); n <= impl.MaxPrice; n++ {
		amount := n%impl.MaxAmount + 1
		c := impl.Cmd{Kind: impl.CmLimit, Owner: n%9 + 1, Buy: n%2 == 0, Price: n, Amount: amount, Life: n % 2, Post: n%3 == 0, Peak: n % (amount + 1), Guard: n%5 == 0}
		same(t, "a limit", impl.CmdRead(impl.CmdText(c)), impl.CmdOut{Cmd: c})
		c = impl.Cmd{Kind: impl.CmReplace, Owner: n%9 + 1, Id: n * 100, Price: n, Amount: amount}
		same(t, "a replace", impl.CmdReadOld(impl.CmdText(c)), impl.CmdOut{Cmd: c})
	}
}

// refused: neither of both reads that text.
func refused(t *testing.T, text string) {
	t.Helper()
	same(t, strconv.Quote(text), impl.CmdRead(text), impl.CmdOut{Code: impl.ErrSyntax})
	same(t, strconv.Quote(text)+" of an old client", impl.CmdReadOld(text), impl.CmdOut{Code: impl.ErrSyntax})
}

// The texts of commands as one rule a Kind; the numbers' limits are asked behind it.
var (
	limitRule   = regexp.MustCompile(`^limit ([1-9]) (buy|sell) ([1-9][0-9]{0,4}) ([1-9][0-9]{0,3}) (stay|day|now|all)( post)?(?: peak ([1-9][0-9]{0,3}))?( guard)?$`)
	marketRule  = regexp.MustCompile(`^market ([1-9]) (buy|sell) ([1-9][0-9]{0,3})$`)
	cancelRule  = regexp.MustCompile(`^cancel ([1-9]) ([1-9][0-9]{0,6})$`)
	replaceRule = regexp.MustCompile(`^replace ([1-9]) ([1-9][0-9]{0,6}) ([1-9][0-9]{0,4}) ([1-9][0-9]{0,3})$`)
)

// readByRule is told by the document's words, in another way than the program's.
func readByRule(text string) impl.CmdOut {
	num := func(digits string) int64 {
		n, _ := strconv.ParseInt("0"+digits, 10, 64)
		return n
	}
	var c impl.Cmd
	if m := limitRule.FindStringSubmatch(text); m != nil {
		life := map[string]int64{"stay": impl.LfStay, "day": impl.LfDay, "now": impl.LfNow, "all": impl.LfAll}[m[5]]
		c = impl.Cmd{Kind: impl.CmLimit, Owner: num(m[1]), Buy: m[2] == "buy", Price: num(m[3]), Amount: num(m[4]), Life: life, Post: m[6] != "", Peak: num(m[7]), Guard: m[8] != ""}
		if c.Peak > c.Amount || life >= impl.LfNow && (c.Post || c.Peak > 0) {
			return impl.CmdOut{Code: impl.ErrSyntax}
		}
	} else if m := marketRule.FindStringSubmatch(text); m != nil {
		c = impl.Cmd{Kind: impl.CmMarket, Owner: num(m[1]), Buy: m[2] == "buy", Amount: num(m[3])}
	} else if m := cancelRule.FindStringSubmatch(text); m != nil {
		c = impl.Cmd{Kind: impl.CmCancel, Owner: num(m[1]), Id: num(m[2])}
	} else if m := replaceRule.FindStringSubmatch(text); m != nil {
		c = impl.Cmd{Kind: impl.CmReplace, Owner: num(m[1]), Id: num(m[2]), Price: num(m[3]), Amount: num(m[4])}
	} else if text == "roll" {
		c = impl.Cmd{Kind: impl.CmRoll}
	}
	if c.Kind == 0 || c.Id > impl.MaxTime || c.Price > impl.MaxPrice || c.Amount > impl.MaxAmount {
		return impl.CmdOut{Code: impl.ErrSyntax}
	}
	return impl.CmdOut{Cmd: c}
}

// readsByRule: do both readers tell of the text what the rules tell?
func readsByRule(t *testing.T, text string) {
	t.Helper()
	want := readByRule(text)
	same(t, strconv.Quote(text), impl.CmdRead(text), want)
	if c := want.Cmd; c.Post || c.Peak > 0 || c.Guard {
		want = impl.CmdOut{Code: impl.ErrNew}
	}
	same(t, strconv.Quote(text)+" of an old client", impl.CmdReadOld(text), want)
}

func TestCmdReadOfNumbersThatMayNotBe(t *testing.T) {
	for _, text := range []string{
		"limit 0 buy 1 1 stay", "limit 10 buy 1 1 stay", "limit 1 buy 0 1 stay", "limit 1 buy 10001 1 stay",
		"limit 1 buy 1 0 stay", "limit 1 buy 1 1001 stay", "limit 1 sell 0 0 all", "limit 1 buy 1 5 stay peak 0",
		"limit 1 buy 1 5 stay peak 6", "limit 1 buy 1 5 day post peak 0 guard", "limit 1 buy 1 5 day post peak 6 guard",
		"limit 1 buy 1 1000 day peak 1001", "limit 1 buy 1 5 now post", "limit 1 buy 1 5 all post", "limit 1 buy 1 5 now peak 1",
		"limit 1 buy 1 5 all peak 5", "limit 1 buy 1 5 all post guard", "limit 1 buy 1 5 all peak 5 guard", "limit 1 buy 1 5 all peak 0",
		"market 0 buy 1", "market 10 sell 1", "market 1 buy 0", "market 1 sell 1001",
		"cancel 0 1", "cancel 10 1", "cancel 1 0", "cancel 1 1000001",
		"replace 0 1 1 1", "replace 10 1 1 1", "replace 1 0 1 1", "replace 1 1000001 1 1", "replace 1 1 0 1",
		"replace 1 1 10001 1", "replace 1 1 1 0", "replace 1 1 1 1001",
	} {
		refused(t, text)
	}
	for _, c := range wrongCmds() {
		readsByRule(t, textOfCmd(c))
	}
}

// textsOfEachKind: the last one has all the words that there may be.
func textsOfEachKind() []string {
	return []string{"limit 3 buy 100 50 stay", "limit 3 sell 100 50 all guard", "market 4 sell 60", "cancel 5 7", "replace 6 7 70 80", "roll",
		"limit 9 sell 10000 1000 day post peak 1000 guard"}
}

func TestCmdReadOfNumbersWrittenElse(t *testing.T) {
	others := []string{"-%s", "+%s", "0%s", "00%s", "%s.0", "%s0000000", "%s,", "0x%s", "%s_0", "'%s", "%se0", "\u0663%s", "%s\u00b2", "\uff11%s"}
	for _, text := range textsOfEachKind() {
		words := strings.Split(text, " ")
		for at, word := range words {
			if word[0] < '0' || word[0] > '9' {
				continue
			}
			var turned []string
			for _, other := range others {
				turned = append(turned, strings.Replace(other, "%s", word, 1))
			}
			turned = append(turned, "", "0", "-0", "00", "x", "\u0663", "\uff11", "9223372036854775807", "9223372036854775808", "18446744073709551617",
				"1"+strings.Repeat("0", 64), strings.Repeat("9", 4000), strings.Repeat("0", 4000)+word, word+"\x00", word+"\n", "\xff"+word)
			// 2^64 more wraps round to the number itself.
			for _, wrap := range []string{"18446744073709551616", "4294967296"} {
				turned = append(turned, addDigits(wrap, word))
			}
			for _, other := range turned {
				refused(t, strings.Join(replaced(words, at, other), " "))
			}
		}
	}
}

// addDigits adds a number of at most five digits to one whose end has room for it.
func addDigits(number string, word string) string {
	cut := len(number) - 6
	end, _ := strconv.Atoi(number[cut:])
	n, _ := strconv.Atoi(word)
	return number[:cut] + fmt.Sprintf("%06d", end+n)
}

func replaced(words []string, at int, word string) []string {
	out := append([]string{}, words...)
	out[at] = word
	return out
}

func TestCmdReadOfBlanks(t *testing.T) {
	for _, text := range textsOfEachKind() {
		for _, blank := range []string{" ", "  ", "\t", "\n", "\r\n", "\x00", "\u00a0", "\u3000"} {
			refused(t, blank+text)
			refused(t, text+blank)
			refused(t, blank+text+blank)
		}
		for at := range text {
			if text[at] != ' ' {
				continue
			}
			for _, other := range []string{"", "  ", "   ", "\t", "\n", "_", ",", " \t", "\u00a0", "\x00"} {
				refused(t, text[:at]+other+text[at+1:])
			}
		}
		refused(t, strings.ToUpper(text))
		refused(t, strings.ToUpper(text[:1])+text[1:])
	}
	for _, text := range []string{"", " ", "  ", "\n", "\t", "\x00"} {
		refused(t, text)
	}
}

func TestCmdReadOfWordsOutOfPlace(t *testing.T) {
	more := []string{"limit", "market", "cancel", "replace", "roll", "buy", "sell", "stay", "day", "now", "all", "post", "peak", "guard", "1", "0", "x", ""}
	for _, text := range textsOfEachKind() {
		words := strings.Split(text, " ")
		for at := range words {
			readsByRule(t, strings.Join(words[:at], " "))
			readsByRule(t, strings.Join(words[at:], " "))
			readsByRule(t, strings.Join(append(append([]string{}, words[:at]...), words[at+1:]...), " "))
			for _, word := range more {
				readsByRule(t, strings.Join(replaced(words, at, word), " "))
				readsByRule(t, strings.Join(append(append(append([]string{}, words[:at]...), word), words[at:]...), " "))
			}
			for to := range words {
				turned := append([]string{}, words...)
				turned[at], turned[to] = turned[to], turned[at]
				readsByRule(t, strings.Join(turned, " "))
			}
		}
		for _, word := range append(more, words...) {
			readsByRule(t, text+" "+word)
		}
		refused(t, text+" "+text)
		refused(t, text+"\n"+text)
	}
	for _, text := range []string{
		"limit 3 buy 100 50 stay guard post", "limit 3 buy 100 50 stay guard peak 5", "limit 3 buy 100 50 stay peak 5 post",
		"limit 3 buy 100 50 stay post post", "limit 3 buy 100 50 stay guard guard", "limit 3 buy 100 50 stay peak 5 peak 5",
		"limit 3 buy 100 50 stay peak 5 peak 6", "limit 3 buy 100 50 stay peak", "limit 3 buy 100 50 stay 5", "limit 3 buy 100 50 stay peak guard",
		"limit 3 buy 100 50 stay day", "limit 3 buy sell 100 50 stay", "limit 3 buy 100 50", "limit 3 100 50 stay", "limit 3 buy 100 stay",
		"limit buy 3 100 50 stay", "3 limit buy 100 50 stay", "market 4 60 buy", "market 4 60", "market 4 buy", "market 4 buy 60 stay", "market 4 buy 60 guard",
		"market 4 buy 60 70", "cancel 5", "cancel", "cancel 5 7 1", "cancel 5 buy 7", "cancel 5 7 guard", "replace 6 7 70", "replace 6 7 70 80 stay",
		"replace 6 7 70 80 90", "replace 6 buy 7 70 80", "roll 1", "roll roll", "rolls", "rol", "Roll", "stay", "peak 1", "limits 3 buy 100 50 stay",
	} {
		refused(t, text)
	}
}

func TestCmdReadOfBytesThatAreNoText(t *testing.T) {
	odd := []string{"\xff", "\x80", "\xc3\x28", "\xed\xa0\x80", "\xf0\x9f", "\u00e9", "\u0131", "\ufffd", "\ufeff", "\u200b", "\u0665", "\U0001d7d9", "\x00", "\x7f"}
	for _, text := range textsOfEachKind() {
		for at := range len(text) + 1 {
			for _, bytes := range odd {
				refused(t, text[:at]+bytes+text[at:])
				if at < len(text) {
					refused(t, text[:at]+bytes+text[at+1:])
				}
			}
		}
	}
}

func TestCmdReadOfLongTexts(t *testing.T) {
	size := impl.CmdOut{Code: impl.ErrSize}
	fills := []string{" ", "0", "9", "a", "\xff", " post", " guard", "limit ", "1 ", "\u00e9"}
	for _, text := range append(textsOfEachKind(), "") {
		for _, fill := range fills {
			whole := text + strings.Repeat(fill, impl.MaxBytes+1)
			ahead := strings.Repeat(fill, impl.MaxBytes+1) + text
			refused(t, whole[:impl.MaxBytes])
			refused(t, ahead[len(ahead)-impl.MaxBytes:])
			for _, bytes := range []int{impl.MaxBytes + 1, impl.MaxBytes + 2, 2 * impl.MaxBytes} {
				for _, given := range []string{whole[:min(bytes, len(whole))], ahead[max(len(ahead)-bytes, 0):]} {
					same(t, "too long, of "+strconv.Quote(fill), impl.CmdRead(given), size)
					same(t, "too long, of "+strconv.Quote(fill)+", of an old client", impl.CmdReadOld(given), size)
				}
			}
		}
	}
	same(t, "too long", impl.CmdRead(tooLong()), size)
	same(t, "too long, of an old client", impl.CmdReadOld(tooLong()), size)
	refused(t, long(impl.MaxBytes))
}

// The faults of an old client in their order: too long, no command, a command that is none of its own.
func TestCmdReadOldNamesTheFirstFault(t *testing.T) {
	for _, more := range []string{" post", " peak 1", " guard", " post peak 50 guard"} {
		text := "limit 3 buy 100 50 stay" + more
		same(t, text, impl.CmdReadOld(text), impl.CmdOut{Code: impl.ErrNew})
		same(t, text+", as a new client", impl.CmdRead(text).Code, int64(impl.OK))
		refused(t, text+" ")
		refused(t, text+" x")
		refused(t, strings.Replace(text, "buy 100", "buy 0", 1))
		refused(t, strings.Replace(text, "limit 3", "limit 03", 1))
		same(t, "too long", impl.CmdReadOld(text+strings.Repeat(" ", impl.MaxBytes)), impl.CmdOut{Code: impl.ErrSize})
	}
}

// TestCmdReadOfAnyWords holds many rows of words against the rules.
func TestCmdReadOfAnyWords(t *testing.T) {
	random := rand.New(rand.NewSource(6))
	words := []string{"limit", "market", "cancel", "replace", "roll", "buy", "sell", "stay", "day", "now", "all", "post", "peak", "guard",
		"0", "1", "2", "9", "10", "50", "1000", "1001", "10000", "10001", "1000000", "1000001", "01", "-1", "x", ""}
	texts := textsOfEachKind()
	for range 60000 {
		row := strings.Split(texts[random.Intn(len(texts))], " ")
		for range random.Intn(4) {
			at := random.Intn(len(row))
			row = replaced(row, at, words[random.Intn(len(words))])
			if random.Intn(4) == 0 {
				row = append(row, words[random.Intn(len(words))])
			}
		}
		readsByRule(t, strings.Join(row, " "))
	}
}

// A command has no memory of its own; its text must be one that no later call turns.
func TestCmdTextIsNewMemory(t *testing.T) {
	for _, c := range baseCmds() {
		given := made(textOfCmd(c))
		before := made(given)
		out := impl.CmdRead(given)
		text := impl.CmdText(out.Cmd)
		fresh(t, before, text, given)
		impl.CmdReadOld(given)
		impl.CmdText(impl.Cmd{Kind: impl.CmMarket, Owner: 1, Amount: 1})
		same(t, "what was handed in", given, before)
		same(t, "what was told", text, before)
		same(t, "once more", impl.CmdRead(given), out)
	}
}
