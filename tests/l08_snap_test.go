package tests

import (
	"encoding/binary"
	"fmt"
	"hash/crc32"
	"maps"
	"math"
	"math/rand"
	"reflect"
	"slices"
	"strings"
	"testing"

	"loop.example/g00446/impl"
)

// numbersOf writes numbers as the document says it, by the library: its signed numbers are folded and cut just so.
func numbersOf(numbers ...int64) string {
	var out []byte
	for _, n := range numbers {
		out = binary.AppendVarint(out, n)
	}
	return string(out)
}

func bit(flag bool) int64 {
	if flag {
		return 1
	}
	return 0
}

// orderNumbers writes an order as the make of that Kind has it; as any other Kind, as the newer one.
func orderNumbers(kind int64, o impl.Order) []int64 {
	numbers := []int64{o.Id, o.Owner, o.Price, o.Amount, bit(o.Day)}
	if kind == 1 {
		return numbers
	}
	return append(numbers, o.Peak, o.Hidden, bit(o.Guard))
}

func rowOfOrders(kind int64, l []impl.Order) string {
	out := ""
	for _, o := range l {
		out += numbersOf(orderNumbers(kind, o)...)
	}
	return out
}

// snapRec is the Rec of a book, right or not.
func snapRec(kind int64, bids []impl.Order, asks []impl.Order, next int64, seq int64) impl.Rec {
	return recOf(kind, fieldOf(1, numbersOf(next)), fieldOf(2, rowOfOrders(kind, bids)), fieldOf(3, rowOfOrders(kind, asks)), fieldOf(4, numbersOf(seq)))
}

func oldRec(b impl.Old, seq int64) impl.Rec {
	return snapRec(1, b.Bids, b.Asks, b.Next, seq)
}

func newRec(b impl.New, seq int64) impl.Rec {
	return snapRec(2, restingIn(b.Bids), restingIn(b.Asks), b.Next, seq)
}

// recText lays out any Rec, right or not, as the bytes of a right one are.
func recText(r impl.Rec) string {
	row := rowOfRec(r)
	return numbersOf(int64(len(row))) + row
}

// sealOf seals by the library's CRC, texts of any length.
func sealOf(text string) string {
	return text + string(binary.LittleEndian.AppendUint32(nil, crc32.ChecksumIEEE([]byte(text))))
}

func sealedSnap(r impl.Rec) string {
	return sealOf(recText(r))
}

func rightSeqs() []int64 {
	return []int64{0, 1, 63, 64, 8191, 8192, 77777, impl.MaxTime - 1, impl.MaxTime}
}

func wrongSeqs() []int64 {
	return []int64{-1, -2, -impl.MaxTime, impl.MaxTime + 1, impl.MaxTime + 2, math.MinInt64, math.MaxInt64}
}

func outOfOld(b impl.Old, seq int64) impl.SnapOut {
	return impl.SnapOut{Old: b, Gen: 1, Seq: seq}
}

func outOfNew(b impl.New, seq int64) impl.SnapOut {
	return impl.SnapOut{New: b, Gen: 2, Seq: seq}
}

// snapRefused: that code alone, with nothing beside it, and not plain.
func snapRefused(t *testing.T, what string, text string, code int64) {
	t.Helper()
	alike(t, what, impl.SnapRead(text), impl.SnapOut{Code: code})
	same(t, what+": plain", impl.SnapPlain(text), false)
}

// snapTells: that answer; what is told shares no memory, and if the text is plain it is what is written of the answer, and no other.
func snapTells(t *testing.T, what string, text string, want impl.SnapOut, plain bool) {
	t.Helper()
	out := impl.SnapRead(text)
	alike(t, what, out, want)
	fresh(t, what, out, text)
	same(t, what+": plain", impl.SnapPlain(text), plain)
	written := impl.OldBytes(out.Old, out.Seq)
	if out.Gen == 2 {
		written = impl.NewBytes(out.New, out.Seq)
	}
	same(t, what+": written again", written == text, plain)
}

func TestSnapBytesWrittenOut(t *testing.T) {
	same(t, "an empty older book", impl.OldBytes(impl.OldNew(), 0), sealOf("\x18\x02\x08\x02\x02\x02\x04\x00\x06\x00\x08\x02\x00"))
	same(t, "an empty newer book", impl.NewBytes(impl.NewNew(), 0), sealOf("\x18\x04\x08\x02\x02\x02\x04\x00\x06\x00\x08\x02\x00"))
	// Next 7, one to buy (Id 3, Owner 1, Price 100, Amount 5), one to sell (Id 5, Owner 2, Price 102, Amount 4, Day), seq 64
	same(t, "an older book", impl.OldBytes(oldOf("3/1:100x5 | 5/2:102x4d | 7"), 64),
		sealOf("\x32\x02\x08\x02\x02\x0e\x04\x0c\x06\x02\xc8\x01\x0a\x00\x06\x0c\x0a\x04\xcc\x01\x08\x02\x08\x04\x80\x01"))
	// The same ones, the first of them with a Peak of 6 and 4 Hidden, the other one with a Guard
	same(t, "a newer book", impl.NewBytes(newOf("3/1:100x5+4p6 | 5/2:102x4dg | 7"), 64),
		sealOf("\x3e\x04\x08\x02\x02\x0e\x04\x12\x06\x02\xc8\x01\x0a\x00\x0c\x08\x00\x06\x12\x0a\x04\xcc\x01\x08\x02\x00\x00\x02\x08\x04\x80\x01"))
	same(t, "an older book under the newer make", impl.NewBytes(newOf("3/1:100x5 | | 7"), 1),
		sealOf("\x2a\x04\x08\x02\x02\x0e\x04\x12\x06\x02\xc8\x01\x0a\x00\x00\x00\x00\x06\x00\x08\x02\x02"))
}

// Promise 15, with what is written, and that it is plain.
func TestOldComesBackFromItsBytes(t *testing.T) {
	for what, b := range rightOlds() {
		for _, seq := range rightSeqs() {
			oldComesBack(t, fmt.Sprint(what, ", seq ", seq), b, seq)
		}
	}
}

func oldComesBack(t *testing.T, what string, b impl.Old, seq int64) {
	t.Helper()
	text := impl.OldBytes(b, seq)
	same(t, what+": bytes", text, sealedSnap(oldRec(b, seq)))
	snapTells(t, what, text, outOfOld(b, seq), true)
}

func TestNewComesBackFromItsBytes(t *testing.T) {
	for what, b := range rightNews() {
		for _, seq := range rightSeqs() {
			newComesBack(t, fmt.Sprint(what, ", seq ", seq), b, seq)
		}
	}
}

func newComesBack(t *testing.T, what string, b impl.New, seq int64) {
	t.Helper()
	text := impl.NewBytes(b, seq)
	same(t, what+": bytes", text, sealedSnap(newRec(b, seq)))
	snapTells(t, what, text, outOfNew(b, seq), true)
}

// Promise 15 of the greatest books that there are: each number at its most, so that no Field gets too long.
func TestTheGreatestBooksComeBack(t *testing.T) {
	for _, bids := range []int{0, 1, 12, 23, 24} {
		old, b := impl.Old{Next: impl.MaxTime}, impl.New{Next: impl.MaxTime}
		for at := range impl.MaxRest {
			o := impl.Order{Id: impl.MaxTime - 1 - int64(at), Owner: 9, Price: impl.MaxPrice, Amount: impl.MaxAmount, Day: true}
			if at < bids {
				o.Price--
				old.Bids = append(old.Bids, o)
			} else {
				old.Asks = append(old.Asks, o)
			}
		}
		oldComesBack(t, fmt.Sprint("older, ", bids, " to buy"), old, impl.MaxTime)
		newComesBack(t, fmt.Sprint("newer without Peaks, ", bids, " to buy"), newFromOld(old), impl.MaxTime)
		for _, side := range [][]impl.Order{old.Bids, old.Asks} {
			for at := range side {
				side[at].Amount, side[at].Peak, side[at].Hidden, side[at].Guard = 500, impl.MaxAmount, 500, true
			}
		}
		b.Bids, b.Asks = levelled(old.Bids), levelled(old.Asks)
		newComesBack(t, fmt.Sprint("newer, ", bids, " to buy"), b, impl.MaxTime)
	}
}

// Promise 15 of books as commands leave them.
func TestBooksComeBackInLongRuns(t *testing.T) {
	random := rand.New(rand.NewSource(8))
	old, b := impl.OldNew(), impl.NewNew()
	for round := range 3000 {
		if out := impl.OldDo(old, someOldCmd(random, old, 9, 40)); out.Code == impl.OK {
			old = out.Old
		}
		if out := impl.NewDo(b, someNewCmd(random, b, 9, 40)); out.Code == impl.OK {
			b = out.New
		}
		seq := random.Int63n(impl.MaxTime + 1)
		oldComesBack(t, fmt.Sprint("older, round ", round), old, seq)
		newComesBack(t, fmt.Sprint("newer, round ", round), b, seq)
	}
	if impl.OldCount(old) == 0 || impl.NewCount(b) == 0 {
		t.Error("the books were empty")
	}
}

// withFields has these Fields besides, in their order.
func withFields(r impl.Rec, more ...impl.Field) impl.Rec {
	fields := append(slices.Clone(r.Fields), more...)
	slices.SortFunc(fields, func(a, b impl.Field) int { return int(a.Id - b.Id) })
	return impl.Rec{Kind: r.Kind, Fields: fields}
}

// moreFields stand ahead of the four, behind them, and both (between them no Id is left).
func moreFields() map[string][]impl.Field {
	out := map[string][]impl.Field{
		"ahead":              {fieldOf(0, "ahead")},
		"ahead, empty":       {fieldOf(0, "")},
		"ahead, a number":    {fieldOf(0, numbersOf(5))},
		"just behind":        {fieldOf(5, "behind")},
		"just behind, empty": {fieldOf(5, "")},
		"the last Id":        {fieldOf(1000, "last")},
		"both":               {fieldOf(0, "ahead"), fieldOf(5, "behind"), fieldOf(77, "\x00\xff"), fieldOf(1000, "last")},
		"a long one":         {fieldOf(9, long(500))},
		"as one of the four": {fieldOf(0, numbersOf(1)), fieldOf(5, numbersOf(9)), fieldOf(6, numbersOf(1, 1, 5, 1, 0))},
	}
	var many []impl.Field
	for id := range int64(impl.MaxFields - 4) {
		many = append(many, fieldOf(10+id, fmt.Sprint("field ", id)))
	}
	out["MaxFields"] = many
	return out
}

// Promise 15: fields more count for nothing.
func TestFieldsMoreCountForNothing(t *testing.T) {
	for what, more := range moreFields() {
		for book, b := range rightOlds() {
			snapTells(t, what+": older: "+book, sealedSnap(withFields(oldRec(b, 77), more...)), outOfOld(b, 77), false)
		}
		for book, b := range rightNews() {
			snapTells(t, what+": newer: "+book, sealedSnap(withFields(newRec(b, 77), more...)), outOfNew(b, 77), false)
		}
	}
	// Field by Field, as a later hand would put them in.
	b := oldOf(someOldText)
	text := impl.OldBytes(b, 5)
	for id := int64(5); id <= 30; id++ {
		r := impl.RecRead(impl.Unseal(text).Text, 0).Rec
		text = impl.Seal(impl.RecBytes(impl.RecWith(r, id, long(int(id))).Rec))
		snapTells(t, fmt.Sprint("up to the Id ", id), text, outOfOld(b, 5), false)
	}
}

// Fields more that make up a record that is not right, or that leave no room, are a fault all the same.
func TestFieldsMoreOutOfTheirPlace(t *testing.T) {
	for gen, r := range map[string]impl.Rec{"older": oldRec(oldOf(someOldText), 9), "newer": newRec(newOf(someNewText), 9)} {
		for at := range 5 {
			for _, id := range []int64{-1, 0, 1, 2, 3, 4, 5, 1000, 1001} {
				fields := slices.Insert(slices.Clone(r.Fields), at, fieldOf(id, "more"))
				if id == 0 && at == 0 || (id == 5 || id == 1000) && at == 4 {
					continue
				}
				snapRefused(t, fmt.Sprint(gen, ", the Id ", id, " at ", at), sealedSnap(recOf(r.Kind, fields...)), impl.ErrSyntax)
			}
		}
		many := moreFields()["MaxFields"]
		snapRefused(t, gen+", one more than MaxFields", sealedSnap(withFields(r, append(many, fieldOf(900, ""))...)), impl.ErrSyntax)
		snapRefused(t, gen+", one of 501 bytes", sealedSnap(withFields(r, fieldOf(9, long(501)))), impl.ErrSyntax)
	}
}

// filledUp has Fields more, so that its row has that many bytes: each of these has three beside those of its Text.
func filledUp(r impl.Rec, size int) impl.Rec {
	left := size - len(rowOfRec(r))
	for id := int64(10); left > 0; id++ {
		text := left - 3
		if text > 500 {
			text = 400
		}
		r = withFields(r, fieldOf(id, long(text)))
		left -= text + 3
	}
	return r
}

// As many bytes as may be sealed: MaxBytes in all.
func TestFieldsMoreUpToMaxBytes(t *testing.T) {
	old, b := oldOf(someOldText), newOf(someNewText)
	for _, size := range []int{7989, 7990, 7991, 7994} {
		text := sealedSnap(filledUp(oldRec(old, 3), size))
		same(t, "bytes in all", len(text), size+6)
		snapTells(t, fmt.Sprint("older, a row of ", size), text, outOfOld(old, 3), false)
		snapTells(t, fmt.Sprint("newer, a row of ", size), sealedSnap(filledUp(newRec(b, 3), size)), outOfNew(b, 3), false)
	}
	snapRefused(t, "one byte more", sealedSnap(filledUp(oldRec(old, 3), 7995)), impl.ErrSize)
}

func TestSnapBytesOfABookThatIsNotRight(t *testing.T) {
	for what, b := range wrongOlds() {
		for _, seq := range []int64{0, 1, impl.MaxTime, -1} {
			same(t, what, impl.OldBytes(b, seq), "")
		}
	}
	for what, b := range wrongNews() {
		for _, seq := range []int64{0, 1, impl.MaxTime, -1} {
			same(t, what, impl.NewBytes(b, seq), "")
		}
	}
	same(t, "the zero one", impl.OldBytes(impl.Old{}, 0), "")
	same(t, "the zero one", impl.NewBytes(impl.New{}, 0), "")
}

func TestSnapBytesOfASeqThatMayNotBe(t *testing.T) {
	for _, seq := range wrongSeqs() {
		for what, b := range rightOlds() {
			same(t, fmt.Sprint(what, ", seq ", seq), impl.OldBytes(b, seq), "")
		}
		for what, b := range rightNews() {
			same(t, fmt.Sprint(what, ", seq ", seq), impl.NewBytes(b, seq), "")
		}
	}
}

// someSnaps are bytes of books of either make.
func someSnaps() map[string]string {
	return map[string]string{
		"an empty older":  impl.OldBytes(impl.OldNew(), 0),
		"an empty newer":  impl.NewBytes(impl.NewNew(), 0),
		"an older":        impl.OldBytes(oldOf(someOldText), 64),
		"a newer":         impl.NewBytes(newOf(someNewText), 64),
		"a full older":    impl.OldBytes(fullOld(12, 12), impl.MaxTime),
		"a full newer":    impl.NewBytes(fullNew(12, 12, 4), impl.MaxTime),
		"an older, more":  sealedSnap(withFields(oldRec(oldOf(someOldText), 64), moreFields()["both"]...)),
		"a newer, more":   sealedSnap(withFields(newRec(newOf(someNewText), 64), moreFields()["both"]...)),
		"an older, a lot": sealedSnap(withFields(oldRec(oldOf(someOldText), 64), moreFields()["MaxFields"]...)),
	}
}

func TestSnapReadTellsTheCodeOfUnseal(t *testing.T) {
	for size := range 4 {
		snapRefused(t, fmt.Sprint(size, " bytes"), strings.Repeat("\x00", size), impl.ErrShort)
		snapRefused(t, fmt.Sprint("a snap cut to ", size, " bytes"), impl.OldBytes(impl.OldNew(), 0)[:size], impl.ErrShort)
	}
	for _, text := range []string{"\x00\x00\x00\x01", "abcd", "\xff\xff\xff\xff", long(300), long(impl.MaxBytes)} {
		snapRefused(t, "no seal", text, impl.ErrSum)
	}
	for what, text := range someSnaps() {
		for size := 4; size < len(text); size++ {
			snapRefused(t, fmt.Sprint(what, " cut to ", size), text[:size], impl.ErrSum)
		}
		for at := 1; at <= len(text)-4; at++ {
			snapRefused(t, fmt.Sprint(what, " from ", at, " on"), text[at:], impl.ErrSum)
		}
		for _, more := range []string{"x", "\x00", "\x00\x00\x00\x00", text} {
			snapRefused(t, what+" with more behind", text+more, impl.ErrSum)
		}
	}
}

func TestSnapReadWithOneByteTurned(t *testing.T) {
	for what, text := range someSnaps() {
		turned := []byte(text)
		for at, kept := range turned {
			for _, turn := range []byte{1, 2, 16, 128, 255} {
				turned[at] = kept ^ turn
				snapRefused(t, fmt.Sprint(what, ", byte ", at, " turned by ", turn), string(turned), impl.ErrSum)
			}
			turned[at] = kept
		}
	}
}

// Which fault is named first: the length, then the sum, then what was sealed.
func TestSnapReadNamesTheFirstFault(t *testing.T) {
	right := recText(oldRec(oldOf(someOldText), 64))
	for size := impl.MaxBytes - 3; size <= impl.MaxBytes+1; size++ {
		snapRefused(t, "a seal that is too long", sealOf(right+long(size-len(right))), impl.ErrSize)
	}
	snapRefused(t, "no seal and too long", tooLong(), impl.ErrSize)
	snapRefused(t, "far too long", long(20000), impl.ErrSize)
	snapRefused(t, "just as long as may be", sealOf(right+long(impl.MaxBytes-4-len(right))), impl.ErrSyntax)
	snapRefused(t, "no seal, and no Rec", "\x80\x80\x00\x00\x00\x00", impl.ErrSum)
	wrong := sealedSnap(oldRec(impl.Old{}, -1))
	snapRefused(t, "no right book", wrong, impl.ErrSyntax)
	snapRefused(t, "no right book, and a sum that is not right", wrong[:len(wrong)-1]+string(wrong[len(wrong)-1]^1), impl.ErrSum)
	snapRefused(t, "no right book, and a byte more", wrong+"x", impl.ErrSum)
}

func TestSnapReadOfWhatIsNotJustOneRec(t *testing.T) {
	for _, inner := range []string{"", "\x00", "\x80", "\x02", "\x01", "\x03\x02\x00", "abc", "\x84\x00\x02\x00", "\xff\xff\xff\xff\xff\xff\xff\xff\xff\x02", "\x04\x02", "\x04\x02\x01", "\x02\x02", long(300), strings.Repeat("\xff", 7996), strings.Repeat("\x00", 7996)} {
		snapRefused(t, fmt.Sprintf("%.20q", inner), sealOf(inner), impl.ErrSyntax)
	}
	for what, text := range someSnaps() {
		r := text[:len(text)-4]
		for size := range r {
			snapRefused(t, fmt.Sprint(what, ": its Rec cut to ", size), sealOf(r[:size]), impl.ErrSyntax)
		}
		for b := range 256 {
			snapRefused(t, fmt.Sprint(what, ": ", b, " behind its Rec"), sealOf(r+string([]byte{byte(b)})), impl.ErrSyntax)
			snapRefused(t, fmt.Sprint(what, ": ", b, " ahead of its Rec"), sealOf(string([]byte{byte(b)})+r), impl.ErrSyntax)
		}
		snapRefused(t, what+": two of its Recs", sealOf(r+r), impl.ErrSyntax)
		snapRefused(t, what+": an empty Rec behind", sealOf(r+"\x04\x00\x00"), impl.ErrSyntax)
		snapRefused(t, what+": an empty Rec ahead", sealOf("\x04\x00\x00"+r), impl.ErrSyntax)
		snapRefused(t, what+": sealed twice", sealOf(text), impl.ErrSyntax)
		snapRefused(t, what+": the row alone", sealOf(impl.GetText(r, 0).Text), impl.ErrSyntax)
		snapRefused(t, what+": a text in a text", sealOf(impl.PutText(r)), impl.ErrSyntax)
		snapRefused(t, what+": a byte more in its row", sealOf(impl.PutText(impl.GetText(r, 0).Text+"\x00")), impl.ErrSyntax)
	}
}

func TestSnapReadOfKinds(t *testing.T) {
	for _, kind := range []int64{0, 3, 4, 5, 12, 63, 64, 255, 256, 257, 258, 999, 1000, 1001, 65537, 1 << 32, 1<<32 + 1, -1, -2, math.MinInt64, math.MaxInt64} {
		for _, r := range []impl.Rec{oldRec(impl.OldNew(), 0), oldRec(oldOf(someOldText), 9), newRec(newOf(someNewText), 9), recOf(1)} {
			r.Kind = kind
			snapRefused(t, fmt.Sprint("Kind ", kind), sealedSnap(r), impl.ErrSyntax)
		}
	}
}

// What stands there is read as its Kind says: of a book without orders the Kind alone tells the make.
// (No orders are right ones of both: of eight that are five of the other make, two would have the Id 1.)
func TestSnapReadOfTheOtherMake(t *testing.T) {
	olds, news := rightOlds(), rightNews()
	olds["eight to buy"], olds["16 and 8"] = fullOld(8, 0), fullOld(16, 8)
	news["five to sell"], news["15 and 5"] = fullNew(0, 5, 2), fullNew(15, 5, 2)
	for what, b := range olds {
		r := oldRec(b, 9)
		r.Kind = 2
		if impl.OldCount(b) == 0 {
			snapTells(t, "as a newer one: "+what, sealedSnap(r), outOfNew(newFromOld(b), 9), true)
		} else {
			snapRefused(t, "as a newer one: "+what, sealedSnap(r), impl.ErrSyntax)
		}
	}
	for what, b := range news {
		r := newRec(b, 9)
		r.Kind = 1
		if impl.NewCount(b) == 0 {
			snapTells(t, "as an older one: "+what, sealedSnap(r), outOfOld(impl.Old{Next: b.Next}, 9), true)
		} else {
			snapRefused(t, "as an older one: "+what, sealedSnap(r), impl.ErrSyntax)
		}
	}
}

// eitherMake are Recs of right books with orders on both sides.
func eitherMake() map[string]impl.Rec {
	return map[string]impl.Rec{
		"older":          oldRec(oldOf(someOldText), 64),
		"newer":          newRec(newOf(someNewText), 64),
		"older as newer": newRec(newFromOld(oldOf(someOldText)), 64),
		"full older":     oldRec(fullOld(11, 13), impl.MaxTime),
		"full newer":     newRec(fullNew(11, 13, 3), impl.MaxTime),
	}
}

// turnedField is a copy that has another Text in the Field of that Id.
func turnedField(r impl.Rec, id int64, text string) impl.Rec {
	out := copyOf(r)
	for at := range out.Fields {
		if out.Fields[at].Id == id {
			out.Fields[at].Text = text
		}
	}
	return out
}

func TestSnapReadWithoutAField(t *testing.T) {
	for what, r := range eitherMake() {
		for at := range r.Fields {
			less := copyOf(r)
			less.Fields = slices.Delete(less.Fields, at, at+1)
			snapRefused(t, fmt.Sprint(what, " without the Field ", at+1), sealedSnap(less), impl.ErrSyntax)
			snapRefused(t, fmt.Sprint(what, " without the Field ", at+1, ", but more"), sealedSnap(withFields(less, moreFields()["both"]...)), impl.ErrSyntax)
			moved := copyOf(r)
			moved.Fields[at].Id += 10
			snapRefused(t, fmt.Sprint(what, ", the Field ", at+1, " under another Id"), sealedSnap(withFields(recOf(r.Kind), moved.Fields...)), impl.ErrSyntax)
			snapRefused(t, fmt.Sprint(what, ", the Field ", at+1, " alone"), sealedSnap(recOf(r.Kind, r.Fields[at])), impl.ErrSyntax)
		}
		snapRefused(t, what+" without any", sealedSnap(recOf(r.Kind)), impl.ErrSyntax)
		twice := recOf(r.Kind, r.Fields[0], r.Fields[0], r.Fields[1], r.Fields[2], r.Fields[3])
		snapRefused(t, what+", one of them twice", sealedSnap(twice), impl.ErrSyntax)
		slices.Reverse(twice.Fields)
		snapRefused(t, what+", falling", sealedSnap(recOf(r.Kind, twice.Fields[:4]...)), impl.ErrSyntax)
	}
}

// No number is told of an empty Text, but no orders are.
func TestSnapReadWithAnEmptyField(t *testing.T) {
	for what, r := range eitherMake() {
		snapRefused(t, what+" without Next", sealedSnap(turnedField(r, 1, "")), impl.ErrSyntax)
		snapRefused(t, what+" without seq", sealedSnap(turnedField(r, 4, "")), impl.ErrSyntax)
	}
	old, b := oldOf(someOldText), newOf(someNewText)
	snapTells(t, "older without Bids", sealedSnap(turnedField(oldRec(old, 6), 2, "")), outOfOld(impl.Old{Asks: old.Asks, Next: 7}, 6), true)
	snapTells(t, "older without Asks", sealedSnap(turnedField(oldRec(old, 6), 3, "")), outOfOld(impl.Old{Bids: old.Bids, Next: 7}, 6), true)
	snapTells(t, "newer without Bids", sealedSnap(turnedField(newRec(b, 6), 2, "")), outOfNew(impl.New{Asks: b.Asks, Next: 7}, 6), true)
	snapTells(t, "newer without Asks", sealedSnap(turnedField(newRec(b, 6), 3, "")), outOfNew(impl.New{Bids: b.Bids, Next: 7}, 6), true)
}

func TestSnapReadWithAByteMoreOrLessInAField(t *testing.T) {
	for what, r := range eitherMake() {
		for _, field := range r.Fields {
			for b := range 256 {
				more := string([]byte{byte(b)})
				snapRefused(t, fmt.Sprint(what, ", ", b, " behind the Field ", field.Id), sealedSnap(turnedField(r, field.Id, field.Text+more)), impl.ErrSyntax)
				if field.Id == 2 || field.Id == 3 {
					snapByRuleToo(t, fmt.Sprint(what, ", ", b, " ahead of the Field ", field.Id), sealedSnap(turnedField(r, field.Id, more+field.Text)))
				}
			}
			snapRefused(t, fmt.Sprint(what, ", the Field ", field.Id, " twice in its Text"), sealedSnap(turnedField(r, field.Id, field.Text+field.Text)), impl.ErrSyntax)
		}
		for _, id := range []int64{2, 3} {
			text := r.Fields[id-1].Text
			ends := endsOfOrders(r.Kind, text)
			for size := range text {
				if size == 0 || slices.Contains(ends, size) {
					continue
				}
				snapRefused(t, fmt.Sprint(what, ", the Field ", id, " cut to ", size), sealedSnap(turnedField(r, id, text[:size])), impl.ErrSyntax)
			}
			snapByRuleToo(t, fmt.Sprint(what, ", the Field ", id, " without its first byte"), sealedSnap(turnedField(r, id, text[1:])))
		}
	}
	for _, text := range []string{numbersOf(64), numbersOf(10000), numbersOf(impl.MaxTime)} {
		for size := range text {
			r := oldRec(oldOf(someOldText), 5)
			snapRefused(t, "Next cut short", sealedSnap(turnedField(r, 1, text[:size])), impl.ErrSyntax)
			snapRefused(t, "seq cut short", sealedSnap(turnedField(r, 4, text[:size])), impl.ErrSyntax)
		}
	}
}

// endsOfOrders are the places at which a side's Text may end between two orders.
func endsOfOrders(kind int64, text string) []int {
	ends := []int{0}
	at, numbers := 0, 0
	for at < len(text) {
		_, size := binary.Varint([]byte(text[at:]))
		at += size
		numbers++
		if kind == 1 && numbers%5 == 0 || kind == 2 && numbers%8 == 0 {
			ends = append(ends, at)
		}
	}
	return ends
}

// A Text that ends between two orders is one of fewer.
func TestSnapReadOfFewerOrders(t *testing.T) {
	for what, r := range eitherMake() {
		for _, id := range []int64{2, 3} {
			text := r.Fields[id-1].Text
			for many, size := range endsOfOrders(r.Kind, text) {
				out := impl.SnapRead(sealedSnap(turnedField(r, id, text[:size])))
				same(t, what, out.Code, impl.OK)
				got := len(out.Old.Bids) + len(restingIn(out.New.Bids))
				if id == 3 {
					got = len(out.Old.Asks) + len(restingIn(out.New.Asks))
				}
				same(t, fmt.Sprint(what, ", the Field ", id), got, many)
			}
		}
	}
}

// writtenElse are texts that the library reads as that number, or that stand where it would, but are not written as they should be.
func writtenElse(n int64) []string {
	text := numbersOf(n)
	last := len(text) - 1
	needless := text[:last] + string([]byte{text[last] + 128}) + "\x00"
	longer := text[:last] + string([]byte{text[last] + 128}) + "\x80\x00"
	open := text[:last] + string([]byte{text[last] + 128})
	return []string{needless, longer, open, strings.Repeat("\x80", 9) + "\x02", strings.Repeat("\x80", 9) + "\x01", strings.Repeat("\x80", 9) + "\x00", strings.Repeat("\xff", 10) + "\x01", strings.Repeat("\xff", 9) + "\x01"}
}

func TestSnapReadOfNumbersWrittenElse(t *testing.T) {
	for what, r := range eitherMake() {
		for _, id := range []int64{1, 4} {
			for _, n := range []int64{0, 1, 7, 64, 9000, impl.MaxTime} {
				for _, text := range writtenElse(n) {
					snapRefused(t, fmt.Sprintf("%s, %q in the Field %d", what, text, id), sealedSnap(turnedField(r, id, text)), impl.ErrSyntax)
				}
			}
		}
		for _, id := range []int64{2, 3} {
			numbers := numbersIn(r.Fields[id-1].Text)
			for at, n := range numbers {
				ahead, behind := numbersOf(numbers[:at]...), numbersOf(numbers[at+1:]...)
				for _, text := range writtenElse(n) {
					if len(ahead+text+behind) <= 500 {
						snapRefused(t, fmt.Sprintf("%s, number %d of the Field %d: %q", what, at, id, text), sealedSnap(turnedField(r, id, ahead+text+behind)), impl.ErrSyntax)
					}
				}
			}
		}
	}
}

func numbersIn(text string) []int64 {
	var numbers []int64
	for text != "" {
		n, size := binary.Varint([]byte(text))
		if size <= 0 {
			panic("no numbers")
		}
		numbers, text = append(numbers, n), text[size:]
	}
	return numbers
}

// Day and Guard are 1 or 0, and nothing else.
func TestSnapReadOfFlagsThatAreNone(t *testing.T) {
	for what, r := range eitherMake() {
		each := map[int64]int{1: 5, 2: 8}[r.Kind]
		for _, id := range []int64{2, 3} {
			numbers := numbersIn(r.Fields[id-1].Text)
			for at := range numbers {
				if at%each != 4 && at%each != 7 {
					continue
				}
				for _, n := range []int64{2, 3, -1, -2, 256, 257, 1 << 32, math.MaxInt64, math.MinInt64} {
					turned := slices.Clone(numbers)
					turned[at] = n
					snapRefused(t, fmt.Sprint(what, ", number ", at, " of the Field ", id, " is ", n), sealedSnap(turnedField(r, id, numbersOf(turned...))), impl.ErrSyntax)
				}
			}
		}
	}
}

// Each number of an order, turned to what is at and beyond its limits, in a book that has room for it.
func TestSnapReadOfNumbersAtTheirLimits(t *testing.T) {
	for what, r := range eitherMake() {
		for _, id := range []int64{2, 3} {
			numbers := numbersIn(r.Fields[id-1].Text)
			for at := range numbers {
				for _, n := range []int64{math.MinInt64, -1, 0, 1, 2, 5, 6, 7, 9, 10, 99, 100, 101, 499, 500, 501, 998, 999, 1000, 1001, 9999, 10000, 10001, 999999, 1000000, 1000001, math.MaxInt64} {
					turned := slices.Clone(numbers)
					turned[at] = n
					snapByRuleToo(t, fmt.Sprint(what, ", number ", at, " of the Field ", id, " is ", n), sealedSnap(turnedField(r, id, numbersOf(turned...))))
				}
			}
		}
	}
}

func TestSnapReadOfSeqAndNext(t *testing.T) {
	for what, r := range eitherMake() {
		for _, seq := range wrongSeqs() {
			snapRefused(t, fmt.Sprint(what, ", seq ", seq), sealedSnap(turnedField(r, 4, numbersOf(seq))), impl.ErrSyntax)
		}
		for _, next := range []int64{math.MinInt64, -7, -1, 0, 1, 2, 5, 6, impl.MaxTime + 1, math.MaxInt64} {
			snapRefused(t, fmt.Sprint(what, ", Next ", next), sealedSnap(turnedField(r, 1, numbersOf(next))), impl.ErrSyntax)
		}
	}
	for _, next := range []int64{7, 8, 999999, 1000000} {
		old, b := oldOf(someOldText), newOf(someNewText)
		old.Next, b.Next = next, next
		snapTells(t, fmt.Sprint("older, Next ", next), sealedSnap(oldRec(old, 0)), outOfOld(old, 0), true)
		snapTells(t, fmt.Sprint("newer, Next ", next), sealedSnap(newRec(b, 0)), outOfNew(b, 0), true)
	}
}

// The bytes have no place for what an older book may not have: a Peak in it is not seen, so those are passed by here.
func TestSnapReadOfAnOlderBookThatIsNotRight(t *testing.T) {
	tried := 0
	for what, b := range wrongOlds() {
		if strings.Contains(what, "Peak") || strings.Contains(what, "Hidden") || strings.Contains(what, "Guard") {
			continue
		}
		tried++
		for _, seq := range []int64{0, impl.MaxTime} {
			snapRefused(t, what, sealedSnap(oldRec(b, seq)), impl.ErrSyntax)
		}
		snapRefused(t, what+", with more", sealedSnap(withFields(oldRec(b, 5), moreFields()["both"]...)), impl.ErrSyntax)
	}
	if tried < 50 {
		t.Errorf("just %d were tried", tried)
	}
}

// The bytes have no Levels, so those that are not laid as they should be may be read as they should.
func TestSnapReadOfANewerBookThatIsNotRight(t *testing.T) {
	refused, laid := 0, 0
	for what, b := range wrongNews() {
		as := impl.New{Bids: levelled(restingIn(b.Bids)), Asks: levelled(restingIn(b.Asks)), Next: b.Next}
		if impl.NewRight(as) {
			laid++
			snapTells(t, what, sealedSnap(newRec(b, 5)), outOfNew(as, 5), true)
			continue
		}
		refused++
		for _, r := range []impl.Rec{newRec(b, 5), withFields(newRec(b, 5), moreFields()["both"]...)} {
			text, code := sealedSnap(r), int64(impl.ErrSyntax)
			if len(text) > impl.MaxBytes {
				code = impl.ErrSize
			}
			snapRefused(t, what, text, code)
		}
	}
	if refused < 50 || laid < 5 {
		t.Errorf("just %d were refused, %d laid anew", refused, laid)
	}
}

// As many orders as a Field has room for are more than a book has.
func TestSnapReadOfTooManyOrders(t *testing.T) {
	for many := range 101 {
		old, b := impl.Old{Next: 200}, impl.New{Next: 200}
		for at := range many {
			old.Bids = append(old.Bids, impl.Order{Id: int64(at) + 1, Owner: 1, Price: 5, Amount: 1})
		}
		b.Bids = levelled(old.Bids)
		if many <= impl.MaxRest {
			snapTells(t, fmt.Sprint(many, " in an older one"), sealedSnap(oldRec(old, 1)), outOfOld(old, 1), true)
			snapTells(t, fmt.Sprint(many, " in a newer one"), sealedSnap(newRec(b, 1)), outOfNew(b, 1), true)
		} else {
			snapRefused(t, fmt.Sprint(many, " in an older one"), sealedSnap(oldRec(old, 1)), impl.ErrSyntax)
			snapRefused(t, fmt.Sprint(many, " in a newer one"), sealedSnap(newRec(b, 1)), impl.ErrSyntax)
		}
	}
}

// snapByRule reads by the library, step by step as the document has it.
func snapByRule(text string) impl.SnapOut {
	if len(text) > 8000 {
		return impl.SnapOut{Code: impl.ErrSize}
	}
	if len(text) < 4 {
		return impl.SnapOut{Code: impl.ErrShort}
	}
	inner := text[:len(text)-4]
	if sealOf(inner) != text {
		return impl.SnapOut{Code: impl.ErrSum}
	}
	kind, fields, right := recByRule(inner)
	if !right || kind != 1 && kind != 2 {
		return impl.SnapOut{Code: impl.ErrSyntax}
	}
	out, right := bookByRule(kind, fields)
	if !right {
		return impl.SnapOut{Code: impl.ErrSyntax}
	}
	return out
}

// numberByRule holds what was read against how it is written, as the library reads more than it writes.
func numberByRule(text string) (int64, string, bool) {
	n, size := binary.Varint([]byte(text))
	if size <= 0 || numbersOf(n) != text[:size] {
		return 0, "", false
	}
	return n, text[size:], true
}

func textByRule(text string) (string, string, bool) {
	size, behind, right := numberByRule(text)
	if !right || size < 0 || size > int64(len(behind)) {
		return "", "", false
	}
	return behind[:size], behind[size:], true
}

func recByRule(text string) (int64, map[int64]string, bool) {
	row, behind, right := textByRule(text)
	if !right || behind != "" {
		return 0, nil, false
	}
	kind, row, right := numberByRule(row)
	if !right {
		return 0, nil, false
	}
	many, row, right := numberByRule(row)
	if !right || many < 0 || many > 30 {
		return 0, nil, false
	}
	fields := map[int64]string{}
	last := int64(-1)
	for range many {
		var id int64
		var field string
		if id, row, right = numberByRule(row); !right || id <= last || id > 1000 {
			return 0, nil, false
		}
		if field, row, right = textByRule(row); !right || len(field) > 500 {
			return 0, nil, false
		}
		fields[id], last = field, id
	}
	return kind, fields, row == ""
}

func bookByRule(kind int64, fields map[int64]string) (impl.SnapOut, bool) {
	for id := range int64(4) {
		if _, there := fields[id+1]; !there {
			return impl.SnapOut{}, false
		}
	}
	next, behindNext, nextRight := numberByRule(fields[1])
	seq, behindSeq, seqRight := numberByRule(fields[4])
	bids, bidsRight := ordersByRule(kind, fields[2])
	asks, asksRight := ordersByRule(kind, fields[3])
	if !nextRight || !seqRight || !bidsRight || !asksRight || behindNext != "" || behindSeq != "" || seq < 0 || seq > 1000000 {
		return impl.SnapOut{}, false
	}
	if kind == 1 {
		b := impl.Old{Bids: bids, Asks: asks, Next: next}
		return outOfOld(b, seq), impl.OldRight(b)
	}
	b := impl.New{Bids: levelled(bids), Asks: levelled(asks), Next: next}
	return outOfNew(b, seq), impl.NewRight(b)
}

func ordersByRule(kind int64, text string) ([]impl.Order, bool) {
	var out []impl.Order
	each := map[int64]int{1: 5, 2: 8}[kind]
	for text != "" {
		var n [8]int64
		for at := range each {
			var right bool
			if n[at], text, right = numberByRule(text); !right {
				return nil, false
			}
		}
		if n[4]>>1 != 0 || n[7]>>1 != 0 {
			return nil, false
		}
		out = append(out, impl.Order{Id: n[0], Owner: n[1], Price: n[2], Amount: n[3], Day: n[4] == 1, Peak: n[5], Hidden: n[6], Guard: n[7] == 1})
	}
	return out, true
}

// snapByRuleToo: it tells what the rule tells, and is plain just if it is what is written of that.
func snapByRuleToo(t *testing.T, what string, text string) impl.SnapOut {
	t.Helper()
	want := snapByRule(text)
	if want.Code != impl.OK {
		snapRefused(t, what, text, want.Code)
		return want
	}
	r := newRec(want.New, want.Seq)
	if want.Gen == 1 {
		r = oldRec(want.Old, want.Seq)
	}
	snapTells(t, what, text, want, sealedSnap(r) == text)
	return want
}

func TestTheRuleReadsWhatIsWritten(t *testing.T) {
	for what, text := range someSnaps() {
		same(t, what, snapByRule(text).Code, impl.OK)
		snapByRuleToo(t, what, text)
	}
}

// Any bytes, sealed or not: none ends in a panic, and all are read by the rule.
func TestSnapReadOfAnyBytes(t *testing.T) {
	random := rand.New(rand.NewSource(15))
	for range 20000 {
		bytes := make([]byte, random.Intn(60))
		for at := range bytes {
			bytes[at] = byte(random.Intn(256)) >> random.Intn(8)
		}
		text := string(bytes)
		for _, text := range []string{text, sealOf(text), sealOf(impl.PutText(text)), sealOf(impl.PutText("\x04\x08" + text)), sealOf(impl.PutText("\x02\x08" + text))} {
			snapByRuleToo(t, fmt.Sprintf("%q", text), text)
		}
		two, three := string(bytes[:len(bytes)/2]), string(bytes[len(bytes)/2:])
		r := recOf(1+random.Int63n(2), fieldOf(1, numbersOf(50)), fieldOf(2, two), fieldOf(3, three), fieldOf(4, numbersOf(9)))
		snapByRuleToo(t, fmt.Sprintf("%q and %q", two, three), sealedSnap(r))
	}
}

// Right bytes with a few of them turned, taken out or put in, and sealed anew.
func TestSnapReadOfBytesTurnedAndSealedAnew(t *testing.T) {
	random := rand.New(rand.NewSource(16))
	texts := someSnaps()
	names := slices.Sorted(maps.Keys(texts))
	right := 0
	for range 60000 {
		name := names[random.Intn(len(names))]
		row := []byte(impl.GetText(impl.Unseal(texts[name]).Text, 0).Text)
		for range 1 + random.Intn(3) {
			at := random.Intn(len(row))
			switch random.Intn(4) {
			case 0:
				row[at] ^= 1 << random.Intn(8)
			case 1:
				row[at] = byte(random.Intn(256))
			case 2:
				row = slices.Delete(row, at, at+1)
			case 3:
				row = slices.Insert(row, at, byte(random.Intn(256))>>random.Intn(8))
			}
		}
		if snapByRuleToo(t, name, sealOf(impl.PutText(string(row)))).Code == impl.OK {
			right++
		}
	}
	if right < 1000 {
		t.Errorf("just %d were read", right)
	}
}

// Orders of small numbers, right or not, of either Kind.
func TestSnapReadOfAnyOrders(t *testing.T) {
	random := rand.New(rand.NewSource(17))
	right := map[int64]int{}
	for range 60000 {
		kind := 1 + random.Int63n(2)
		side := func(price int64) []impl.Order {
			var out []impl.Order
			for range random.Intn(4) {
				o := impl.Order{Id: 1 + random.Int63n(30), Owner: random.Int63n(11), Price: price + random.Int63n(3), Amount: 1 + random.Int63n(4), Day: random.Intn(2) == 0}
				if random.Intn(2) == 0 {
					o.Peak, o.Hidden, o.Guard = random.Int63n(6), random.Int63n(3), random.Intn(2) == 0
				}
				out = append(out, o)
			}
			return out
		}
		r := snapRec(kind, side(5), side(7), 25+random.Int63n(8), random.Int63n(3)-random.Int63n(2))
		if out := snapByRuleToo(t, "any orders", sealedSnap(r)); out.Code == impl.OK {
			right[out.Gen]++
		}
	}
	if right[1] < 1000 || right[2] < 1000 {
		t.Errorf("just %v were read", right)
	}
}

// What is handed in is not changed, nor what stands behind its lists, and what is read again is new.
func TestSnapBytesLeavesWhatIsHandedIn(t *testing.T) {
	whole := append(make([]impl.Order, 0, 20), ordersOf("3/1:100x5 1/2:100x7d 6/2:99x1 5/3:102x4d 2/1:103x6 4/4:103x9")...)
	old := impl.Old{Bids: whole[:3], Asks: whole[3:], Next: 7}
	before := copyOf(whole[:20])
	oldComesBack(t, "older", old, 5)
	alike(t, "older: what was handed in", whole[:20], before)
	fresh(t, "older", impl.SnapRead(impl.OldBytes(old, 5)), old)

	orders := append(make([]impl.Order, 0, 20), restingOf("3/1:100x5+4p6 1/2:100x7d 6/2:99x1p1g 5/3:102x4+9p4d 2/1:103x6g 4/4:103x9")...)
	levels := append(make([]impl.Level, 0, 9), impl.Level{Price: 100, Orders: orders[:2]}, impl.Level{Price: 99, Orders: orders[2:3]}, impl.Level{Price: 102, Orders: orders[3:4]}, impl.Level{Price: 103, Orders: orders[4:]})
	b := impl.New{Bids: levels[:2], Asks: levels[2:], Next: 7}
	ordersBefore, levelsBefore := copyOf(orders[:20]), copyOf(levels[:9])
	newComesBack(t, "newer", b, 5)
	alike(t, "newer: what was handed in", orders[:20], ordersBefore)
	alike(t, "newer: what was handed in", levels[:9], levelsBefore)
	fresh(t, "newer", impl.SnapRead(impl.NewBytes(b, 5)), b)
}

// What was read is the caller's own: by turning it nothing else is turned.
func TestSnapReadAnswersNewMemory(t *testing.T) {
	text := made(impl.NewBytes(fullNew(12, 12, 4), 9))
	kept := strings.Clone(text)
	out := impl.SnapRead(text)
	again := copyOf(out)
	for _, side := range [][]impl.Level{out.New.Bids, out.New.Asks} {
		_ = append(side, impl.Level{Price: 99})
		for _, level := range side {
			_ = append(level.Orders, impl.Order{Id: 99})
		}
	}
	alike(t, "told", out, again)
	for _, side := range [][]impl.Level{out.New.Bids, out.New.Asks} {
		for at := range side {
			clear(side[at].Orders)
		}
		clear(side)
	}
	alike(t, "read once more", impl.SnapRead(text), again)
	same(t, "the text", text, kept)
	old := impl.SnapRead(impl.OldBytes(fullOld(12, 12), 9))
	before := copyOf(old)
	_ = append(old.Old.Bids, impl.Order{Id: 99})
	_ = append(old.Old.Asks, impl.Order{Id: 98})
	alike(t, "older, told", old, before)
}

// The same bytes tell the same, whatever was read between.
func TestSnapReadKeepsNothing(t *testing.T) {
	text := impl.NewBytes(newOf(someNewText), 64)
	first := copyOf(impl.SnapRead(text))
	for what, other := range someSnaps() {
		impl.SnapRead(other)
		impl.SnapRead(other[1:])
		impl.SnapPlain(other)
		impl.SnapRead(sealOf(what))
		if got := impl.SnapRead(text); !reflect.DeepEqual(flat(reflect.ValueOf(got)), flat(reflect.ValueOf(first))) {
			t.Errorf("behind %s: got %v, want %v", what, got, first)
		}
		same(t, "plain", impl.SnapPlain(text), true)
	}
}
