package tests

import (
	"encoding/binary"
	"fmt"
	"hash/crc32"
	"math"
	"math/rand"
	"slices"
	"strings"
	"testing"

	"loop.example/g00446/impl"
)

// sealedByRule has the CRC of the library, so that a fault of the program's own is not in both.
func sealedByRule(text string) string {
	return string(binary.LittleEndian.AppendUint32([]byte(text), crc32.ChecksumIEEE([]byte(text))))
}

// sized is a text behind that number, which need not be its length.
func sized(number int64, text string) string {
	return string(binary.AppendVarint(nil, number)) + text
}

func entryOf(text string) string {
	sealed := sealedByRule(text)
	return sized(int64(len(sealed)), sealed)
}

func entriesOf(texts ...string) string {
	var data strings.Builder
	for _, text := range texts {
		data.WriteString(entryOf(text))
	}
	return data.String()
}

// journalByRule takes at each place the text, of 0 to 300 bytes, whose record stands there as it must be written.
func journalByRule(data string) ([]string, int) {
	var texts []string
	at := 0
	for {
		text, stands := entryByRule(data[at:])
		if !stands {
			return texts, at
		}
		texts = append(texts, text)
		at += len(entryOf(text))
	}
}

func entryByRule(data string) (string, bool) {
	for size := range 301 {
		from := len(sized(int64(size+4), ""))
		if from+size > len(data) {
			return "", false
		}
		text := data[from : from+size]
		if strings.HasPrefix(data, sized(int64(size+4), text)) && strings.HasPrefix(data, entryOf(text)) {
			return text, true
		}
	}
	return "", false
}

// besides are files that stand beside a journal, ahead of it and behind it by their names.
func besides() impl.Fs {
	return fsOf(
		fileOf(made("base"), made("the base's bytes"), 16),
		fileOf(made("journa"), entriesOf("not this one"), 3),
		fileOf(made("journal_"), entriesOf("nor this one"), 0),
		fileOf(made("temp"), made("loose"), 2))
}

// withData is f with that file, in place of the one of its Name.
func withData(f impl.Fs, file impl.File) impl.Fs {
	var out impl.Fs
	for _, other := range f.Files {
		if other.Name != file.Name {
			out.Files = append(out.Files, other)
		}
	}
	out.Files = append(out.Files, file)
	slices.SortFunc(out.Files, func(a, b impl.File) int { return strings.Compare(a.Name, b.Name) })
	return copyOf(out)
}

func journalIn(f impl.Fs) impl.File {
	for _, file := range f.Files {
		if file.Name == "journal" {
			return file
		}
	}
	return impl.File{}
}

func journalAlone(data string, synced int64) impl.Fs {
	return fsOf(fileOf("journal", made(data), synced))
}

// cleanJournals: right files without a journal, with an empty one, and with clean ones.
func cleanJournals() map[string]impl.Fs {
	three := entriesOf("one", "", long(300))
	size := int64(len(three))
	return map[string]impl.Fs{
		"no files":                     {},
		"none among others":            besides(),
		"an empty one":                 journalAlone("", 0),
		"an empty one among others":    withData(besides(), fileOf("journal", "", 0)),
		"an empty text":                journalAlone(entriesOf(""), 0),
		"an empty text, synced":        journalAlone(entriesOf(""), 5),
		"one":                          journalAlone(entriesOf("one"), 3),
		"three":                        journalAlone(three, 0),
		"three, synced":                journalAlone(three, size),
		"three among others":           withData(besides(), fileOf("journal", three, 0)),
		"three among others, synced":   withData(besides(), fileOf("journal", three, size)),
		"three among others, in part":  withData(besides(), fileOf("journal", three, 11)),
		"alike ones":                   journalAlone(entriesOf("x", "x", "x"), 1),
		"one of MaxFiles":              withData(manyFiles(impl.MaxFiles-1), fileOf("journal", three, 5)),
		"none among MaxFiles less one": manyFiles(impl.MaxFiles - 1),
		"more texts than MaxList":      journalAlone(strings.Repeat(entryOf(""), 430), 200),
		"records in records":           journalAlone(entriesOf(entriesOf("in", "side"), entryOf(entryOf(""))), 4),
	}
}

func textsToAdd() []string {
	return []string{"", "a", "two\nlines\n", "\x00", "\xff\x80\x00", "ä€", long(123), long(124), long(299), long(300), entryOf("x"), entryOf("x")[:3], strings.Repeat("\x80", 300)}
}

// adds: what JournalAdd must answer of a journal that has room, and promise 16's beginning.
func adds(t *testing.T, what string, f impl.Fs, text string, sync bool) impl.Fs {
	t.Helper()
	before := copyOf(f)
	was := journalIn(f)
	file := fileOf("journal", was.Data+entryOf(text), was.Synced)
	if sync {
		file.Synced = int64(len(file.Data))
	}
	out := impl.JournalAdd(f, text, sync)
	alike(t, what, out, impl.FsOut{Fs: withData(f, file)})
	alike(t, what+": handed in", f, before)
	fresh(t, what, out, f, text)
	same(t, what+": is it right?", impl.FsRight(out.Fs), true)
	return out.Fs
}

func reads(t *testing.T, what string, f impl.Fs, texts []string, at int64) {
	t.Helper()
	before := copyOf(f)
	out := impl.JournalRead(f)
	alike(t, what+": read", out, impl.JournalOut{Texts: texts, At: at})
	alike(t, what+": handed in to be read", f, before)
	fresh(t, what+": read", out, f)
}

func TestJournalWrittenOut(t *testing.T) {
	a, none := "\x0aa\x43\xbe\xb7\xe8", "\x08\x00\x00\x00\x00"
	alike(t, "a text of one byte", impl.JournalAdd(impl.Fs{}, "a", false), impl.FsOut{Fs: journalAlone(a, 0)})
	alike(t, "synced", impl.JournalAdd(impl.Fs{}, "a", true), impl.FsOut{Fs: journalAlone(a, 6)})
	alike(t, "an empty text", impl.JournalAdd(impl.Fs{}, "", true), impl.FsOut{Fs: journalAlone(none, 5)})
	alike(t, "one behind the other", impl.JournalAdd(journalAlone(a, 6), "", false), impl.FsOut{Fs: journalAlone(a+none, 6)})
	alike(t, "read", impl.JournalRead(journalAlone(a+none+a, 0)), impl.JournalOut{Texts: []string{"a", "", "a"}, At: 17})
	alike(t, "read without a file", impl.JournalRead(impl.Fs{}), impl.JournalOut{})
	alike(t, "read of an empty one", impl.JournalRead(journalAlone("", 0)), impl.JournalOut{})
	alike(t, "cleaned", impl.JournalClean(journalAlone(a+none+"\x0aa", 0)), impl.FsOut{Fs: journalAlone(a+none, 11)})
	alike(t, "dropped", impl.JournalDrop(journalAlone(a+none, 6)), impl.FsOut{})
	size300 := impl.JournalAdd(impl.Fs{}, long(300), false).Fs
	same(t, "a length of two bytes", journalIn(size300).Data[:2], "\xe0\x04")
}

// Promise 16, its beginning: what is added to a clean journal is the last one of it.
func TestWhatIsAddedIsTheLast(t *testing.T) {
	for what, f := range cleanJournals() {
		data := journalIn(f).Data
		texts, end := journalByRule(data)
		same(t, what+": is it clean?", end, len(data))
		reads(t, what, f, texts, int64(end))
		for _, text := range textsToAdd() {
			for _, sync := range []bool{false, true} {
				said := fmt.Sprintf("%s, and %.20q, sync %v", what, text, sync)
				added := adds(t, said, f, text, sync)
				reads(t, said, added, append(slices.Clone(texts), text), int64(end+len(entryOf(text))))
			}
		}
	}
}

// crashesWell: promise 16's middle and end for one journal, whose files beside it stand ahead of it and behind it.
func crashesWell(t *testing.T, what string, f impl.Fs) {
	t.Helper()
	at := slices.IndexFunc(f.Files, func(file impl.File) bool { return file.Name == "journal" })
	file := f.Files[at]
	texts, _ := journalByRule(file.Data)
	loose := int64(len(file.Data)) - file.Synced
	keeps := []int64{math.MinInt64, -1, loose + 1, math.MaxInt64}
	for more := range loose + 1 {
		keeps = append(keeps, more)
	}
	for _, more := range keeps {
		keep := slices.Repeat([]int64{1}, len(f.Files))
		keep[at] = more
		left := file.Synced + min(max(more, 0), loose)
		stay, end := 0, int64(0)
		for stay < len(texts) && end+int64(len(entryOf(texts[stay]))) <= left {
			end += int64(len(entryOf(texts[stay])))
			stay++
		}
		said := fmt.Sprintf("%s, a crash that keeps %d", what, more)
		crashed := impl.FsCrash(f, keep)
		same(t, said+": its size", int64(len(journalIn(crashed).Data)), left)
		reads(t, said, crashed, texts[:stay], end)
		cleansUp(t, said, crashed, texts[:stay], end)
	}
}

// cleansUp: has the cleaned journal just these texts, is it synced, and does it take a new one as the last?
func cleansUp(t *testing.T, what string, f impl.Fs, texts []string, end int64) {
	t.Helper()
	before := copyOf(f)
	want := withData(f, fileOf("journal", journalIn(f).Data[:end], end))
	out := impl.JournalClean(f)
	alike(t, what+": cleaned", out, impl.FsOut{Fs: want})
	alike(t, what+": handed in to be cleaned", f, before)
	fresh(t, what+": cleaned", out, f)
	reads(t, what+": cleaned", out.Fs, texts, end)
	alike(t, what+": cleaned twice", impl.JournalClean(out.Fs), out)
	reads(t, what+": cleaned and crashed", impl.FsCrash(out.Fs, nil), texts, end)
	if end+int64(len(entryOf("new"))) > impl.MaxFile {
		return
	}
	for _, sync := range []bool{false, true} {
		added := adds(t, what+": cleaned and added to", out.Fs, "new", sync)
		reads(t, what+": cleaned and added to", added, append(slices.Clone(texts), "new"), end+int64(len(entryOf("new"))))
	}
}

func TestACrashLeavesTheFirstOnes(t *testing.T) {
	rows := [][]string{{"a"}, {""}, {"one", "two", "three"}, {"", "", "x", ""}, {long(124), "x", long(60)}, {"same", "same"}, {entryOf("in"), "y"}}
	for _, row := range rows {
		for synced := range len(row) + 1 {
			var alone impl.Fs
			among := besides()
			for at, text := range row {
				alone = impl.JournalAdd(alone, text, at < synced).Fs
				among = impl.JournalAdd(among, text, at < synced).Fs
			}
			what := fmt.Sprintf("%.40q, %d of them synced", row, synced)
			crashesWell(t, what, alone)
			crashesWell(t, what+", among others", among)
		}
	}
}

// Promise 16, its end: of one that was synced a crash leaves all, whatever was synced when the others were added.
func TestACrashLeavesAllOfOneThatWasSynced(t *testing.T) {
	for what, f := range cleanJournals() {
		texts, end := journalByRule(journalIn(f).Data)
		synced := impl.JournalAdd(f, "the last", true).Fs
		for _, keep := range [][]int64{nil, {}, {-1, -1, -1, -1, -1}, slices.Repeat([]int64{0}, impl.MaxFiles), slices.Repeat([]int64{3}, impl.MaxFiles), {math.MaxInt64, 0, math.MinInt64}} {
			crashed := impl.FsCrash(synced, keep)
			reads(t, what, crashed, append(slices.Clone(texts), "the last"), int64(end+len(entryOf("the last"))))
		}
	}
}

// wrongJournals are files that are not right, with a journal in them or at fault.
func wrongJournals() map[string]impl.Fs {
	out := wrongFs()
	data := entriesOf("a", "b")
	out["falling, with a journal"] = fsOf(fileOf("z", "", 0), fileOf("journal", data, 3))
	out["two journals"] = fsOf(fileOf("journal", data, 3), fileOf("journal", data, 3))
	out["a journal Synced below 0"] = journalAlone(data, -1)
	out["a journal Synced above its bytes"] = journalAlone(data, int64(len(data))+1)
	out["a journal of one byte too many"] = journalAlone(data+long(impl.MaxFile+1-len(data)), 3)
	out["a journal and a Name that is none"] = fsOf(fileOf("journal", data, 3), fileOf("z-", "", 0))
	out["a journal and MaxFiles more"] = withData(manyFiles(impl.MaxFiles), fileOf("journal", data, 3))
	return out
}

func TestJournalOfFilesThatAreNotRight(t *testing.T) {
	form := impl.FsOut{Code: impl.ErrForm}
	for what, f := range wrongJournals() {
		before := copyOf(f)
		for _, sync := range []bool{false, true} {
			for _, size := range []int{0, 1, 299, 300, 301, impl.MaxFile, impl.MaxFile + 1, impl.MaxBytes} {
				alike(t, fmt.Sprint("JournalAdd, ", size, " bytes: ", what), impl.JournalAdd(f, long(size), sync), form)
			}
			alike(t, "JournalAdd, too long: "+what, impl.JournalAdd(f, tooLong(), sync), impl.FsOut{Code: impl.ErrSize})
		}
		alike(t, "JournalRead: "+what, impl.JournalRead(f), impl.JournalOut{Code: impl.ErrForm})
		alike(t, "JournalClean: "+what, impl.JournalClean(f), form)
		alike(t, "JournalDrop: "+what, impl.JournalDrop(f), form)
		alike(t, "handed in: "+what, f, before)
	}
}

func TestJournalAddLimitsOfATextsSize(t *testing.T) {
	all := cleanJournals()
	all["full"] = journalAlone(long(impl.MaxFile), 7)
	all["MaxFiles without one"] = manyFiles(impl.MaxFiles)
	for what, f := range all {
		for _, sync := range []bool{false, true} {
			for _, size := range []int{301, 302, 304, impl.MaxFile, impl.MaxBytes - 4, impl.MaxBytes} {
				alike(t, fmt.Sprint(what, ", ", size, " bytes"), impl.JournalAdd(f, long(size), sync), impl.FsOut{Code: impl.ErrForm})
			}
			alike(t, what+", too long", impl.JournalAdd(f, tooLong(), sync), impl.FsOut{Code: impl.ErrSize})
		}
	}
	for size := range 301 {
		f := adds(t, fmt.Sprint(size, " bytes"), besides(), long(size), size%2 == 0)
		reads(t, fmt.Sprint(size, " bytes"), f, []string{long(size)}, int64(len(entryOf(long(size)))))
	}
}

// fits tells how the text of that many bytes is taken by a journal that has such an amount of room.
func fits(t *testing.T, room int, size int) {
	t.Helper()
	data := long(impl.MaxFile - room)
	text := long(size)
	for _, f := range []impl.Fs{journalAlone(data, 9), withData(besides(), fileOf("journal", data, 0))} {
		for _, sync := range []bool{false, true} {
			what := fmt.Sprintf("room of %d bytes, a text of %d, sync %v", room, size, sync)
			if len(entryOf(text)) <= room {
				adds(t, what, f, text, sync)
			} else {
				alike(t, what, impl.JournalAdd(f, text, sync), impl.FsOut{Code: impl.ErrFull})
			}
		}
	}
}

func TestJournalAddUpToMaxFile(t *testing.T) {
	for _, size := range []int{0, 1, 2, 58, 59, 60, 100, 299, 300} {
		record := len(entryOf(long(size)))
		for _, room := range []int{0, record - 2, record - 1, record, record + 1} {
			fits(t, room, size)
		}
	}
	for size := range 301 {
		fits(t, 200, size)
	}
	// The record of 60 bytes has a length of two bytes, the one of 59 of one.
	same(t, "room of 64", impl.JournalAdd(journalAlone(long(impl.MaxFile-64), 0), long(59), false).Code, impl.OK)
	same(t, "room of 65", impl.JournalAdd(journalAlone(long(impl.MaxFile-65), 0), long(60), false).Code, impl.ErrFull)
}

func TestJournalIsFilledUp(t *testing.T) {
	var f impl.Fs
	var texts []string
	for at := range impl.MaxFile / 5 {
		texts = append(texts, "")
		f = adds(t, "an empty text", f, "", at%3 == 0)
	}
	reads(t, "of empty texts", f, texts, impl.MaxFile)
	for _, sync := range []bool{false, true} {
		alike(t, "one too many", impl.JournalAdd(f, "", sync), impl.FsOut{Code: impl.ErrFull})
		alike(t, "one too many, too long for it", impl.JournalAdd(f, long(301), sync), impl.FsOut{Code: impl.ErrForm})
	}
	cleansUp(t, "of empty texts", f, texts, impl.MaxFile)
	f, texts = impl.Fs{}, nil
	for range 9 {
		texts = append(texts, long(300))
		f = adds(t, "a text of 300 bytes", f, long(300), false)
	}
	alike(t, "the tenth", impl.JournalAdd(f, long(300), true), impl.FsOut{Code: impl.ErrFull})
	f = adds(t, "one that just fits", f, long(240), false)
	reads(t, "of long texts", f, append(texts, long(240)), impl.MaxFile)
}

func TestJournalAmongMaxFiles(t *testing.T) {
	for _, sync := range []bool{false, true} {
		for _, text := range []string{"", "a", long(300)} {
			alike(t, "without one", impl.JournalAdd(manyFiles(impl.MaxFiles), text, sync), impl.FsOut{Code: impl.ErrFull})
		}
		alike(t, "without one, a text of 301 bytes", impl.JournalAdd(manyFiles(impl.MaxFiles), long(301), sync), impl.FsOut{Code: impl.ErrForm})
		made := adds(t, "as the last that may be", manyFiles(impl.MaxFiles-1), "a", sync)
		adds(t, "as one of MaxFiles", made, "b", sync)
	}
	reads(t, "of MaxFiles without one", manyFiles(impl.MaxFiles), nil, 0)
	staysAsItIs(t, "MaxFiles without one", manyFiles(impl.MaxFiles))
}

// stopsAt: the data's first records stand, and none stands at that place.
func stopsAt(t *testing.T, what string, data string, texts []string, end int) {
	t.Helper()
	for _, f := range []impl.Fs{journalAlone(data, 0), withData(besides(), fileOf("journal", data, int64(len(data))))} {
		reads(t, what, f, texts, int64(end))
	}
	ruled, place := journalByRule(data)
	alike(t, what+": by rule", ruled, texts)
	same(t, what+": its place by rule", place, end)
}

func TestJournalCutAtEachByte(t *testing.T) {
	for _, last := range []string{"", "a", "some bytes", long(124), long(300)} {
		head := []string{"first", ""}
		ahead := entriesOf(head...)
		record := entryOf(last)
		for size := range len(record) {
			stopsAt(t, fmt.Sprintf("a record of %d bytes, cut to %d", len(last), size), ahead+record[:size], head, len(ahead))
			stopsAt(t, fmt.Sprintf("the first one, of %d bytes, cut to %d", len(last), size), record[:size], nil, 0)
		}
		stopsAt(t, "the whole of it", ahead+record, append(head, last), len(ahead+record))
	}
}

func TestJournalWithOneByteTurned(t *testing.T) {
	texts := []string{"first", "", long(130), "a", "last"}
	data := entriesOf(texts...)
	for place := range data {
		stay, end := 0, 0
		for end+len(entryOf(texts[stay])) <= place {
			end += len(entryOf(texts[stay]))
			stay++
		}
		for _, turn := range []byte{1, 2, 4, 8, 16, 32, 64, 128, 255} {
			turned := []byte(data)
			turned[place] ^= turn
			stopsAt(t, fmt.Sprintf("byte %d, turned by %d", place, turn), string(turned), texts[:stay], end)
		}
	}
}

// TestWhatIsNoRecord lays it alone, behind a record, and ahead of one that is right.
func TestWhatIsNoRecord(t *testing.T) {
	a, z := sealedByRule("a"), sealedByRule("")
	none := map[string]string{
		"a length with a byte more":             "\x8a\x00" + a,
		"a length with two bytes more":          "\x8a\x80\x00" + a,
		"a length with nine bytes more":         "\x8a\x80\x80\x80\x80\x80\x80\x80\x80\x00" + a,
		"a length of ten bytes, the last above": "\x8a\x80\x80\x80\x80\x80\x80\x80\x80\x02" + a,
		"a length of eleven bytes":              "\x8a\x80\x80\x80\x80\x80\x80\x80\x80\x80\x00" + a,
		"a length of no end":                    strings.Repeat("\x80", 40),
		"a length below 0":                      sized(-5, a),
		"a length just below 0":                 sized(-1, a),
		"the least length":                      sized(math.MinInt64, a),
		"the greatest length":                   sized(math.MaxInt64, a),
		"a length of 32 bits":                   sized(1<<32+5, a),
		"a length above MaxBytes":               sized(impl.MaxBytes+1, a+long(500)),
		"a length of MaxBytes":                  sized(impl.MaxBytes, a+long(500)),
		"a length not folded":                   "\x05" + a,
		"a length of 0":                         sized(0, ""),
		"one byte":                              sized(1, "\x00"),
		"two bytes":                             sized(2, "\x00\x00"),
		"three bytes":                           sized(3, "\x00\x00\x00"),
		"three bytes of a sum":                  sized(3, z[:3]),
		"no sum":                                sized(5, "abcde"),
		"the sum of another":                    sized(5, "a"+sealedByRule("b")[1:]),
		"a sum with its bytes turned round":     sized(5, "a\xe8\xb7\xbe\x43"),
		"a sum ahead of the text":               sized(5, a[1:]+"a"),
		"a length one too small":                sized(4, a),
		"a text not sealed":                     sized(3, "abc"),
		"sealed, without a length":              a,
		"a text of 301 bytes":                   entryOf(long(301)),
		"a text of 302 bytes":                   entryOf(long(302)),
		"a text of a thousand bytes":            entryOf(long(1000)),
		"a line feed":                           "\n",
		"text":                                  "some text",
		"a byte of 255":                         "\xff",
		"noughts":                               strings.Repeat("\x00", 30),
	}
	head := []string{"x", long(300), ""}
	ahead := entriesOf(head...)
	for what, data := range none {
		for _, behind := range []string{"", entryOf("behind"), entryOf("") + entryOf("y")} {
			stopsAt(t, what, data+behind, nil, 0)
			stopsAt(t, what+", behind records", ahead+data+behind, head, len(ahead))
		}
	}
	// Such a length takes in the first byte of the next record; just the sum tells that it is wrong.
	stopsAt(t, "a length one too great", ahead+sized(6, a)+entryOf("y"), head, len(ahead))
	stopsAt(t, "a text of 300 bytes", ahead+entryOf(long(300)), append(head, long(300)), len(ahead)+306)
}

// Who would look on behind what is no record would find one there.
func TestJournalEndsAtWhatIsNoRecord(t *testing.T) {
	for size := 1; size < 20; size++ {
		data := entriesOf("a", "b") + strings.Repeat("\x01", size) + entriesOf("c")
		stopsAt(t, fmt.Sprint(size, " bytes between"), data, []string{"a", "b"}, 12)
		out := impl.JournalClean(journalAlone(data, 0)).Fs
		alike(t, "cleaned", out, journalAlone(entriesOf("a", "b"), 12))
		// Nothing is cleaned by adding: what is added stands behind what is none.
		reads(t, "added to", adds(t, "added to", journalAlone(data, 0), "d", true), []string{"a", "b"}, 12)
	}
}

// notClean are data that are no clean journal, and how many bytes of each are.
func notClean() map[string]int {
	good := entriesOf("a", "", long(200))
	return map[string]int{
		"x":                       0,
		entryOf("a")[:5]:          0,
		good + "\x00":             len(good),
		good + entryOf("a")[:5]:   len(good),
		good + entryOf(long(301)): len(good),
		good + "xx" + good:        len(good),
		long(impl.MaxFile):        0,
		good + strings.Repeat("\x80", impl.MaxFile-len(good)): len(good),
	}
}

func TestJournalClean(t *testing.T) {
	for data, end := range notClean() {
		texts, _ := journalByRule(data)
		for _, synced := range []int{0, 1, end, (end + len(data)) / 2, len(data)} {
			if synced > len(data) {
				continue
			}
			what := fmt.Sprintf("%.20q, of which %d are synced", data, synced)
			cleansUp(t, what, journalAlone(data, int64(synced)), texts, int64(end))
			cleansUp(t, what+", among others", withData(besides(), fileOf("journal", data, int64(synced))), texts, int64(end))
		}
	}
	for what, f := range cleanJournals() {
		if slices.Contains(impl.FsNames(f), "journal") {
			texts, end := journalByRule(journalIn(f).Data)
			cleansUp(t, what, f, texts, int64(end))
		} else {
			staysAsItIs(t, what, f)
		}
	}
}

// staysAsItIs: files without a journal, which neither JournalClean nor JournalDrop makes other ones.
func staysAsItIs(t *testing.T, what string, f impl.Fs) {
	t.Helper()
	before := copyOf(f)
	for call, do := range map[string]func(impl.Fs) impl.FsOut{"JournalClean": impl.JournalClean, "JournalDrop": impl.JournalDrop} {
		out := do(f)
		alike(t, call+": "+what, out, impl.FsOut{Fs: before})
		alike(t, call+", handed in: "+what, f, before)
		fresh(t, call+": "+what, out, f)
	}
}

func TestJournalOfFilesWithoutOne(t *testing.T) {
	without := someFs()
	without.Files = slices.Delete(without.Files, 2, 3)
	for what, f := range map[string]impl.Fs{"no files": {}, "an empty list": {Files: []impl.File{}}, "others": besides(), "some": without, "MaxFiles": manyFiles(impl.MaxFiles)} {
		reads(t, what, f, nil, 0)
		staysAsItIs(t, what, f)
	}
}

func TestJournalDrop(t *testing.T) {
	all := cleanJournals()
	for data, end := range notClean() {
		all[fmt.Sprintf("not clean: %.20q", data)] = withData(besides(), fileOf("journal", data, int64(end)))
	}
	for what, f := range all {
		if !slices.Contains(impl.FsNames(f), "journal") {
			staysAsItIs(t, what, f)
			continue
		}
		before := copyOf(f)
		var want impl.Fs
		for _, file := range before.Files {
			if file.Name != "journal" {
				want.Files = append(want.Files, file)
			}
		}
		out := impl.JournalDrop(f)
		alike(t, what, out, impl.FsOut{Fs: want})
		alike(t, what+": handed in", f, before)
		fresh(t, what, out, f)
		staysAsItIs(t, what+": dropped", out.Fs)
		reads(t, what+": dropped", out.Fs, nil, 0)
		reads(t, what+": begun anew", adds(t, what+": begun anew", out.Fs, "new", false), []string{"new"}, int64(len(entryOf("new"))))
	}
}

// someData is a row of records to which something may have been done.
func someData(random *rand.Rand) string {
	var data string
	for range random.Intn(6) {
		data += entryOf(long(random.Intn([]int{3, 70, 301}[random.Intn(3)])))
	}
	bytes := []byte(data)
	for range random.Intn(3) {
		at := random.Intn(len(bytes) + 1)
		switch kind := random.Intn(4); {
		case kind == 0 && at < len(bytes):
			bytes[at] ^= 1 << random.Intn(8)
		case kind == 1:
			bytes = slices.Insert(bytes, at, byte(random.Intn(256)))
		case kind == 2 && at < len(bytes):
			bytes = slices.Delete(bytes, at, at+1)
		case kind == 3:
			bytes = bytes[:at]
		}
	}
	return string(bytes)
}

func TestJournalsOfAnyBytes(t *testing.T) {
	random := rand.New(rand.NewSource(10))
	for range 3000 {
		data := someData(random)
		texts, end := journalByRule(data)
		f := withData(besides(), fileOf("journal", data, random.Int63n(int64(len(data))+1)))
		reads(t, fmt.Sprintf("%q", data), f, texts, int64(end))
		alike(t, fmt.Sprintf("%q, cleaned", data), impl.JournalClean(f), impl.FsOut{Fs: withData(f, fileOf("journal", data[:end], int64(end)))})
	}
}

// TestJournalInARow holds a long row of calls against the texts that must be there, of which some may go in a crash.
func TestJournalInARow(t *testing.T) {
	random := rand.New(rand.NewSource(16))
	var f impl.Fs
	var texts []string
	sure := 0
	for step := range 5000 {
		switch kind := random.Intn(20); {
		case kind < 14:
			text := fmt.Sprint("step ", step, long(random.Intn(60)))
			sync := random.Intn(4) == 0
			out := impl.JournalAdd(f, text, sync)
			if len(entriesOf(append(slices.Clone(texts), text)...)) > impl.MaxFile {
				same(t, "no room", out.Code, impl.ErrFull)
				f, texts, sure = impl.JournalDrop(f).Fs, nil, 0
				break
			}
			f, texts = out.Fs, append(texts, text)
			if sync {
				sure = len(texts)
			}
		case kind < 18:
			crashed := impl.JournalRead(impl.FsCrash(f, []int64{random.Int63n(250) - 50, random.Int63n(250)}))
			same(t, "how many are there still", len(crashed.Texts) >= sure && len(crashed.Texts) <= len(texts), true)
			texts = slices.Clone(texts[:len(crashed.Texts)])
			alike(t, "the first ones", crashed.Texts, texts)
			f = impl.JournalClean(impl.FsCrash(f, []int64{int64(crashed.At) - journalIn(f).Synced + random.Int63n(3)})).Fs
			sure = len(texts)
		case kind == 18:
			f, sure = impl.JournalClean(f).Fs, len(texts)
		default:
			f, texts, sure = impl.JournalDrop(f).Fs, nil, 0
		}
		reads(t, "in a row", f, texts, int64(len(entriesOf(texts...))))
	}
}

func TestJournalKeepsNothing(t *testing.T) {
	f := cleanJournals()["three among others, in part"]
	added, read, cleaned, dropped := impl.JournalAdd(f, "x", true), impl.JournalRead(f), impl.JournalClean(f), impl.JournalDrop(f)
	other := journalAlone(entriesOf("other")+"x", 2)
	impl.JournalAdd(other, "y", false)
	impl.JournalRead(other)
	impl.JournalClean(other)
	impl.JournalDrop(other)
	impl.JournalRead(impl.JournalAdd(f, "z", false).Fs)
	alike(t, "added", impl.JournalAdd(f, "x", true), added)
	alike(t, "read", impl.JournalRead(f), read)
	alike(t, "cleaned", impl.JournalClean(f), cleaned)
	alike(t, "dropped", impl.JournalDrop(f), dropped)
}
