package tests

import (
	"fmt"
	"math"
	"math/rand"
	"slices"
	"strings"
	"testing"

	"loop.example/g00446/impl"
)

func recOf(kind int64, fields ...impl.Field) impl.Rec {
	return impl.Rec{Kind: kind, Fields: fields}
}

func fieldOf(id int64, text string) impl.Field {
	return impl.Field{Id: id, Text: text}
}

// someRec has an empty Text, one that is a number, and the least and the greatest Id.
func someRec() impl.Rec {
	return recOf(5,
		fieldOf(0, made("zero")),
		fieldOf(3, made(impl.PutNum(1000))),
		fieldOf(7, ""),
		fieldOf(8, made("\x00\xff any bytes\n")),
		fieldOf(1000, made("last")))
}

// manyFields have the Ids 10, 20 and so on.
func manyFields(many int) impl.Rec {
	r := recOf(9)
	for i := range many {
		r.Fields = append(r.Fields, fieldOf(int64(10*(i+1)), made(fmt.Sprint("field ", i))))
	}
	return r
}

// recOfRow is right, and its row has that many bytes, of some 8000: a Field has three beside those of its Text.
func recOfRow(size int) impl.Rec {
	r := recOf(1)
	left := size - 2
	for id := range int64(16) {
		text := min(left-3, 500)
		r.Fields = append(r.Fields, fieldOf(id, long(text)))
		left -= text + 3
	}
	return r
}

// rowOf writes a row out, right or not, with any number of how many Fields it says it has.
func rowOf(kind int64, many int64, fields ...impl.Field) string {
	row := impl.PutNum(kind) + impl.PutNum(many)
	for _, field := range fields {
		row += impl.PutNum(field.Id) + impl.PutText(field.Text)
	}
	return row
}

func rowOfRec(r impl.Rec) string {
	return rowOf(r.Kind, int64(len(r.Fields)), r.Fields...)
}

func rightRecs() map[string]impl.Rec {
	return map[string]impl.Rec{
		"no Fields":            recOf(4),
		"the zero one":         {},
		"an empty list":        {Kind: 1, Fields: []impl.Field{}},
		"Kind 1":               recOf(1, fieldOf(1, made("one"))),
		"Kind 1000":            recOf(1000, fieldOf(1, made("one"))),
		"Id 0":                 recOf(1, fieldOf(0, made("one"))),
		"Id 1000":              recOf(1, fieldOf(1000, made("one"))),
		"some":                 someRec(),
		"neighbours":           recOf(1, fieldOf(4, "a"), fieldOf(5, "a"), fieldOf(6, "a")),
		"an empty Text":        recOf(1, fieldOf(1, "")),
		"a Text of 500":        recOf(1, fieldOf(1, long(500))),
		"MaxFields":            manyFields(impl.MaxFields),
		"one less":             manyFields(impl.MaxFields - 1),
		"as many as there can": recOfRow(7990),
	}
}

// wrongRecs: each in one way only.
func wrongRecs() map[string]impl.Rec {
	out := map[string]impl.Rec{
		"Kind -1":              recOf(-1, fieldOf(1, "a")),
		"Kind 1001":            recOf(1001, fieldOf(1, "a")),
		"Kind -1, no Fields":   recOf(-1),
		"Kind far below":       recOf(math.MinInt64),
		"Kind far above":       recOf(math.MaxInt64, fieldOf(1, "a")),
		"Id -1":                recOf(1, fieldOf(-1, "a")),
		"Id -1 ahead":          recOf(1, fieldOf(-1, "a"), fieldOf(1, "a")),
		"Id 1001":              recOf(1, fieldOf(1001, "a")),
		"Id 1001 behind":       recOf(1, fieldOf(1, "a"), fieldOf(1001, "a")),
		"Id far below":         recOf(1, fieldOf(math.MinInt64, "a"), fieldOf(1, "a")),
		"Id far above":         recOf(1, fieldOf(1, "a"), fieldOf(math.MaxInt64, "a")),
		"falling":              recOf(1, fieldOf(2, "a"), fieldOf(1, "b")),
		"falling at the end":   recOf(1, fieldOf(1, "a"), fieldOf(3, "a"), fieldOf(2, "b")),
		"falling ahead":        recOf(1, fieldOf(2, "a"), fieldOf(1, "a"), fieldOf(3, "b")),
		"two of one Id":        recOf(1, fieldOf(1, "a"), fieldOf(1, "b")),
		"two alike":            recOf(1, fieldOf(0, "a"), fieldOf(1, "a"), fieldOf(1, "a")),
		"two apart":            recOf(1, fieldOf(1, "a"), fieldOf(2, "a"), fieldOf(1, "a")),
		"a Text of 501":        recOf(1, fieldOf(1, long(501))),
		"a Text of 501 last":   recOf(1, fieldOf(1, "a"), fieldOf(2, long(501))),
		"a Text too long":      recOf(1, fieldOf(1, tooLong())),
		"one Field too many":   manyFields(impl.MaxFields + 1),
		"hundreds of Fields":   {Kind: 1},
		"empty Texts, falling": recOf(1, fieldOf(2, ""), fieldOf(1, "")),
	}
	hundreds := out["hundreds of Fields"]
	for id := range int64(impl.MaxList + 1) {
		hundreds.Fields = append(hundreds.Fields, fieldOf(id, ""))
	}
	out["hundreds of Fields"] = hundreds
	return out
}

func TestRecRight(t *testing.T) {
	for what, r := range rightRecs() {
		same(t, what, impl.RecRight(r), true)
	}
	for what, r := range wrongRecs() {
		same(t, what, impl.RecRight(r), false)
	}
}

func TestRecBytesWrittenOut(t *testing.T) {
	same(t, "the zero one", impl.RecBytes(impl.Rec{}), "\x04\x00\x00")
	same(t, "two Fields", impl.RecBytes(recOf(5, fieldOf(1, "\x0e"), fieldOf(64, "ab"))), "\x14\x0a\x04\x02\x02\x0e\x80\x01\x04ab")
	for what, r := range rightRecs() {
		same(t, what, impl.RecBytes(r), impl.PutText(rowOfRec(r)))
	}
}

func TestRecBytesThatAreNone(t *testing.T) {
	for what, r := range wrongRecs() {
		same(t, what, impl.RecBytes(r), "")
	}
	for _, size := range []int{7989, 7990} {
		r := recOfRow(size)
		same(t, "right", impl.RecRight(r), true)
		same(t, fmt.Sprint("bytes of a row of ", size), len(impl.RecBytes(r)), size+2)
	}
	for _, size := range []int{7991, 7992, 7998, 7999, 8000} {
		r := recOfRow(size)
		same(t, "right", impl.RecRight(r), true)
		same(t, fmt.Sprint("bytes of a row of ", size), impl.RecBytes(r), "")
	}
	most := recOf(1)
	for id := range int64(impl.MaxFields) {
		most.Fields = append(most.Fields, fieldOf(id, long(500)))
	}
	same(t, "MaxFields of 500 bytes", impl.RecBytes(most), "")
}

// Promise 5, its first half.
func TestRecComesBack(t *testing.T) {
	for what, r := range rightRecs() {
		for _, ahead := range []string{"", "x", "\x80", "\x04\x00\x00", long(5)} {
			for _, behind := range []string{"", "x", "\xff", impl.RecBytes(someRec())} {
				bytes := impl.RecBytes(r)
				text := ahead + bytes + behind
				if len(text) > impl.MaxBytes {
					continue
				}
				at := int64(len(ahead))
				out := impl.RecRead(text, at)
				alike(t, what, out, impl.RecOut{Rec: r, At: at + int64(len(bytes))})
				fresh(t, what, out, text)
			}
		}
	}
}

// Promise 5, its second half: a newer hand puts Fields in that an older one does not know.
func TestFieldsThatAreNotKnownArePassedBy(t *testing.T) {
	known := someRec()
	more := known
	for _, id := range []int64{1, 2, 4, 9, 500, 999} {
		more = impl.RecWith(more, id, "not known "+fmt.Sprint(id)).Rec
	}
	same(t, "how many", len(more.Fields), len(known.Fields)+6)
	read := impl.RecRead(impl.RecBytes(more), 0)
	same(t, "code", read.Code, int64(impl.OK))
	var ids []int64
	for _, field := range known.Fields {
		same(t, fmt.Sprint("FieldOf of ", field.Id), impl.FieldOf(read.Rec, field.Id), impl.TextOut{Text: field.Text})
		same(t, fmt.Sprint("NumOf of ", field.Id), impl.NumOf(read.Rec, field.Id), impl.NumOf(known, field.Id))
		ids = append(ids, field.Id)
	}
	alike(t, "what is known", impl.RecOnly(read.Rec, ids), impl.RecOut{Rec: known})
}

func TestRecReadTellsTheCodeOfGetText(t *testing.T) {
	bytes := impl.RecBytes(someRec())
	for _, at := range []int64{-1, -2, math.MinInt64} {
		alike(t, fmt.Sprint("at ", at), impl.RecRead(bytes, at), impl.RecOut{Code: impl.ErrForm})
		alike(t, fmt.Sprint("of nothing at ", at), impl.RecRead("", at), impl.RecOut{Code: impl.ErrForm})
		alike(t, fmt.Sprint("of no number at ", at), impl.RecRead("\x80\x00", at), impl.RecOut{Code: impl.ErrForm})
		alike(t, fmt.Sprint("too long at ", at), impl.RecRead(tooLong(), at), impl.RecOut{Code: impl.ErrSize})
	}
	for size := range len(bytes) {
		alike(t, fmt.Sprint("cut to ", size), impl.RecRead(bytes[:size], 0), impl.RecOut{Code: impl.ErrShort})
	}
	for _, at := range []int64{int64(len(bytes)), int64(len(bytes)) + 1, math.MaxInt64} {
		alike(t, fmt.Sprint("at ", at), impl.RecRead(bytes, at), impl.RecOut{Code: impl.ErrShort})
	}
	syntax := map[string]string{
		"needless bytes":     "\x84\x00\x00\x00",
		"a tenth byte of 2":  strings.Repeat("\x80", 9) + "\x02\x00\x00",
		"a length below 0":   "\x03\x00\x00",
		"a length too great": impl.PutNum(impl.MaxBytes+1) + "\x00\x00",
	}
	for what, text := range syntax {
		alike(t, what, impl.RecRead(text, 0), impl.RecOut{Code: impl.ErrSyntax})
		alike(t, what+", behind", impl.RecRead("x"+text, 1), impl.RecOut{Code: impl.ErrSyntax})
	}
	alike(t, "a length of MaxBytes", impl.RecRead(impl.PutNum(impl.MaxBytes)+"\x00\x00", 0), impl.RecOut{Code: impl.ErrShort})
	alike(t, "too long", impl.RecRead(tooLong(), 0), impl.RecOut{Code: impl.ErrSize})
	right := impl.RecBytes(someRec())
	alike(t, "a right one and too long", impl.RecRead(right+long(impl.MaxBytes-len(right)+1), 0), impl.RecOut{Code: impl.ErrSize})
	alike(t, "a right one and just as long", impl.RecRead(right+long(impl.MaxBytes-len(right)), 0), impl.RecOut{Rec: someRec(), At: int64(len(right))})
}

func TestRecReadOfARowThatIsNone(t *testing.T) {
	none := impl.RecOut{Code: impl.ErrSyntax}
	for what, r := range rightRecs() {
		row := rowOfRec(r)
		for size := range min(len(row), 200) {
			alike(t, fmt.Sprint(what, ", cut to ", size), impl.RecRead(impl.PutText(row[:size]), 0), none)
			alike(t, fmt.Sprint(what, ", cut to ", size, ", more behind"), impl.RecRead(impl.PutText(row[:size])+row[size:], 0), none)
		}
		alike(t, what+", cut by one byte", impl.RecRead(impl.PutText(row[:len(row)-1]), 0), none)
		for _, more := range []string{"\x00", "x", "\x02\x00", "\x80"} {
			alike(t, what+", more inside", impl.RecRead(impl.PutText(row+more), 0), none)
		}
		many := int64(len(r.Fields))
		for _, wrong := range []int64{-1, -2, -many - 1, many - 1, many + 1, many + 100, math.MinInt64, math.MaxInt64, impl.MaxFields + 1} {
			text := impl.PutText(rowOf(r.Kind, wrong, r.Fields...))
			if len(text) <= impl.MaxBytes {
				alike(t, fmt.Sprint(what, ", ", wrong, " Fields"), impl.RecRead(text, 0), none)
			}
		}
	}
	alike(t, "no Fields, -1 of them", impl.RecRead(impl.PutText(rowOf(1, -1)), 0), none)
	alike(t, "31 Fields, -31 of them", impl.RecRead(impl.PutText(rowOf(1, -31, manyFields(31).Fields...)), 0), none)
	for what, r := range wrongRecs() {
		alike(t, what, impl.RecRead(impl.PutText(rowOfRec(r)), 0), none)
	}
	inside := map[string]string{
		"Kind with needless bytes":     "\x82\x00\x00",
		"how many, with needless ones": "\x02\x80\x00",
		"an Id with needless bytes":    "\x02\x02\x82\x00\x00",
		"a length with needless bytes": "\x02\x02\x02\x80\x00",
		"a length below 0":             "\x02\x02\x02\x01",
		"an Id that does not end":      "\x02\x02\x80",
		"a length that does not end":   "\x02\x02\x02\x80",
		"a Text cut short":             "\x02\x02\x02\x06ab",
		"a length of 8001":             "\x02\x02\x02" + impl.PutNum(8001),
		"read again from its start":    "\x02\x04\x80\x80",
		"nothing":                      "",
	}
	for what, row := range inside {
		alike(t, what, impl.RecRead(impl.PutText(row), 0), none)
	}
}

// A row above 7990 bytes is not written by RecBytes, but it is one of a right record.
func TestRecReadOfALongerRow(t *testing.T) {
	for _, size := range []int{7990, 7991, 7998} {
		r := recOfRow(size)
		alike(t, fmt.Sprint("a row of ", size), impl.RecRead(impl.PutText(rowOfRec(r)), 0), impl.RecOut{Rec: r, At: int64(size) + 2})
	}
}

func TestFieldOf(t *testing.T) {
	for what, r := range rightRecs() {
		there := map[int64]string{}
		for _, field := range r.Fields {
			there[field.Id] = field.Text
			out := impl.FieldOf(r, field.Id)
			same(t, what, out, impl.TextOut{Text: field.Text})
			fresh(t, what, out, r)
		}
		for _, id := range []int64{-1, 0, 1, 2, 5, 11, 999, 1000, 1001, math.MinInt64, math.MaxInt64} {
			if _, ok := there[id]; !ok {
				same(t, fmt.Sprint(what, ", none of ", id), impl.FieldOf(r, id), impl.TextOut{Code: impl.ErrNone})
				same(t, fmt.Sprint(what, ", no number of ", id), impl.NumOf(r, id), impl.NumOut{Code: impl.ErrNone})
			}
		}
	}
	for what, r := range wrongRecs() {
		for _, id := range []int64{-1, 0, 1, 2, 10, 700, 1001} {
			same(t, what, impl.FieldOf(r, id), impl.TextOut{Code: impl.ErrForm})
			same(t, what+", number", impl.NumOf(r, id), impl.NumOut{Code: impl.ErrForm})
		}
	}
}

func TestNumOf(t *testing.T) {
	for _, n := range []int64{0, 1, -1, 63, 64, -64, -65, 1000000, math.MaxInt64, math.MinInt64} {
		r := recOf(2, fieldOf(1, "x"), fieldOf(6, impl.PutNum(n)), fieldOf(9, impl.PutNum(n)+impl.PutNum(n)))
		same(t, fmt.Sprint("the number ", n), impl.NumOf(r, 6), impl.NumOut{N: n})
		same(t, fmt.Sprint("one and another behind it: ", n), impl.NumOf(r, 9), impl.NumOut{Code: impl.ErrSyntax})
	}
	wrong := map[string]string{
		"empty":             "",
		"a byte behind it":  "\x02\x00",
		"a text":            impl.PutText("ab"),
		"does not end":      "\x80",
		"ends far too late": strings.Repeat("\x80", 12),
		"needless bytes":    "\x82\x00",
		"its tenth byte":    strings.Repeat("\xff", 9) + "\x02",
		"500 bytes":         long(500),
	}
	for what, text := range wrong {
		same(t, what, impl.NumOf(recOf(1, fieldOf(6, text)), 6), impl.NumOut{Code: impl.ErrSyntax})
	}
}

func TestRecWithANewField(t *testing.T) {
	r := someRec()
	for _, id := range []int64{1, 2, 4, 6, 9, 999} {
		for _, text := range []string{"", "x", "\x00\xff", long(500)} {
			want := someRec()
			want.Fields = append(want.Fields, fieldOf(id, text))
			slices.SortFunc(want.Fields, func(a, b impl.Field) int { return int(a.Id - b.Id) })
			given := made(text)
			out := impl.RecWith(r, id, given)
			alike(t, fmt.Sprint("the Id ", id), out, impl.RecOut{Rec: want})
			fresh(t, fmt.Sprint("the Id ", id), out, r, given)
		}
	}
	two := recOf(3, fieldOf(10, "a"), fieldOf(20, "b"))
	alike(t, "ahead of all", impl.RecWith(two, 0, "c"), impl.RecOut{Rec: recOf(3, fieldOf(0, "c"), fieldOf(10, "a"), fieldOf(20, "b"))})
	alike(t, "between", impl.RecWith(two, 11, "c"), impl.RecOut{Rec: recOf(3, fieldOf(10, "a"), fieldOf(11, "c"), fieldOf(20, "b"))})
	alike(t, "behind all", impl.RecWith(two, 1000, "c"), impl.RecOut{Rec: recOf(3, fieldOf(10, "a"), fieldOf(20, "b"), fieldOf(1000, "c"))})
	alike(t, "of none", impl.RecWith(recOf(1000), 5, "c"), impl.RecOut{Rec: recOf(1000, fieldOf(5, "c"))})
}

func TestRecWithAFieldThatIsThere(t *testing.T) {
	for what, r := range rightRecs() {
		for at, field := range r.Fields {
			for _, text := range []string{"", "turned", field.Text} {
				want := copyOf(r)
				want.Fields[at].Text = text
				given := made(text)
				out := impl.RecWith(r, field.Id, given)
				alike(t, what, out, impl.RecOut{Rec: want})
				fresh(t, what, out, r, given)
			}
		}
	}
}

func TestRecWithUpToMaxFields(t *testing.T) {
	almost := manyFields(impl.MaxFields - 1)
	for _, id := range []int64{0, 15, 1000} {
		full := impl.RecWith(almost, id, "x")
		same(t, "the last one: code", full.Code, int64(impl.OK))
		same(t, "the last one: how many", len(full.Rec.Fields), impl.MaxFields)
		for _, more := range []int64{1, 25, 999} {
			alike(t, "one too many", impl.RecWith(full.Rec, more, ""), impl.RecOut{Code: impl.ErrFull})
		}
		turned := impl.RecWith(full.Rec, id, "y")
		same(t, "one that is there", impl.FieldOf(turned.Rec, id), impl.TextOut{Text: "y"})
		alike(t, "an Id that may not be", impl.RecWith(full.Rec, 1001, "y"), impl.RecOut{Code: impl.ErrForm})
		alike(t, "a Text that may not be", impl.RecWith(full.Rec, 1, long(501)), impl.RecOut{Code: impl.ErrForm})
		alike(t, "a Text too long", impl.RecWith(full.Rec, 1, tooLong()), impl.RecOut{Code: impl.ErrSize})
	}
}

func TestRecWithWhatMayNotBe(t *testing.T) {
	form, size := impl.RecOut{Code: impl.ErrForm}, impl.RecOut{Code: impl.ErrSize}
	for what, r := range rightRecs() {
		for _, id := range []int64{-1, 1001, math.MinInt64, math.MaxInt64} {
			alike(t, fmt.Sprint(what, ", the Id ", id), impl.RecWith(r, id, "x"), form)
			alike(t, fmt.Sprint(what, ", the Id ", id, ", too long"), impl.RecWith(r, id, tooLong()), size)
		}
		for _, bytes := range []int{501, impl.MaxBytes} {
			alike(t, fmt.Sprint(what, ", a Text of ", bytes), impl.RecWith(r, 5, long(bytes)), form)
		}
		alike(t, what+", too long", impl.RecWith(r, 5, tooLong()), size)
	}
	for what, r := range wrongRecs() {
		for _, id := range []int64{-1, 0, 1, 2, 10, 1001} {
			alike(t, what, impl.RecWith(r, id, "x"), form)
			alike(t, what+", too long", impl.RecWith(r, id, tooLong()), size)
		}
	}
}

func TestRecOnly(t *testing.T) {
	r := someRec()
	cases := []struct {
		what  string
		known []int64
		ids   []int64
	}{
		{"none", nil, nil},
		{"an empty list", []int64{}, nil},
		{"the first", []int64{0}, []int64{0}},
		{"the last", []int64{1000}, []int64{1000}},
		{"some", []int64{3, 8}, []int64{3, 8}},
		{"all", []int64{0, 3, 7, 8, 1000}, []int64{0, 3, 7, 8, 1000}},
		{"some that are not there", []int64{1, 2, 3, 4, 5, 9}, []int64{3}},
		{"none that is there", []int64{1, 2, 4, 999}, nil},
		{"Ids that may not be", []int64{math.MinInt64, -1, 0, 1000, 1001, math.MaxInt64}, []int64{0, 1000}},
		{"MaxList of them", upTo(impl.MaxList), []int64{0, 3, 7, 8}},
	}
	for _, c := range cases {
		want := recOf(r.Kind)
		for _, id := range c.ids {
			want.Fields = append(want.Fields, fieldOf(id, impl.FieldOf(r, id).Text))
		}
		known := slices.Clone(c.known)
		out := impl.RecOnly(r, known)
		alike(t, c.what, out, impl.RecOut{Rec: want})
		alike(t, c.what+": known", known, c.known)
		fresh(t, c.what, out, r, known)
	}
	alike(t, "of no Fields", impl.RecOnly(recOf(7), []int64{1, 2}), impl.RecOut{Rec: recOf(7)})
}

// upTo are the numbers from 0 on, that many.
func upTo(many int) []int64 {
	var out []int64
	for n := range int64(many) {
		out = append(out, n)
	}
	return out
}

func TestRecOnlyOfWhatIsNotRight(t *testing.T) {
	form, size := impl.RecOut{Code: impl.ErrForm}, impl.RecOut{Code: impl.ErrSize}
	falling := [][]int64{{2, 1}, {1, 1}, {0, 3, 3}, {0, 8, 7}, {5, 4, 6}, {0, 0}, {-1, -1}, {math.MaxInt64, math.MinInt64}}
	many := slices.Repeat([]int64{1}, impl.MaxList)
	for what, r := range rightRecs() {
		for _, known := range append(falling, many) {
			alike(t, fmt.Sprint(what, ", known ", len(known)), impl.RecOnly(r, known), form)
		}
		alike(t, what+", one too many", impl.RecOnly(r, upTo(impl.MaxList+1)), size)
		alike(t, what+", one too many, falling", impl.RecOnly(r, append(many, 1)), size)
	}
	for what, r := range wrongRecs() {
		for _, known := range [][]int64{nil, {1}, {0, 1, 2}, {2, 1}} {
			alike(t, what, impl.RecOnly(r, known), form)
		}
		alike(t, what+", one too many", impl.RecOnly(r, upTo(impl.MaxList+1)), size)
	}
}

func TestRecordsAreNotChanged(t *testing.T) {
	for _, recs := range []map[string]impl.Rec{rightRecs(), wrongRecs()} {
		for what, r := range recs {
			// A list with room behind its end shows whether something was laid there.
			r.Fields = append(make([]impl.Field, 0, len(r.Fields)+2), r.Fields...)
			before, known := copyOf(r), []int64{0, 3, 10, 1000}
			impl.RecRight(r)
			impl.RecBytes(r)
			for _, id := range []int64{-1, 0, 1, 5, 10, 1000} {
				impl.FieldOf(r, id)
				impl.NumOf(r, id)
				impl.RecWith(r, id, "turned")
			}
			impl.RecOnly(r, known)
			alike(t, what, r, before)
			alike(t, what+": behind its end", r.Fields[len(r.Fields):cap(r.Fields)], make([]impl.Field, cap(r.Fields)-len(r.Fields)))
			alike(t, what+": known", known, []int64{0, 3, 10, 1000})
		}
	}
}

// TestRecordsInARow holds a long row of calls against fields in a map, told by the document's words.
func TestRecordsInARow(t *testing.T) {
	random := rand.New(rand.NewSource(3))
	model := map[int64]string{}
	r := recOf(77)
	for range 4000 {
		if random.Intn(40) > 0 {
			id, text := random.Int63n(50)-1, long(random.Intn(300))
			out := impl.RecWith(r, id, text)
			_, there := model[id]
			switch {
			case id < 0:
				alike(t, "below 0", out, impl.RecOut{Code: impl.ErrForm})
			case !there && len(model) == impl.MaxFields:
				alike(t, "full", out, impl.RecOut{Code: impl.ErrFull})
			default:
				model[id] = text
				r = out.Rec
			}
		} else {
			var known []int64
			for id := range int64(50) {
				if random.Intn(2) == 0 {
					known = append(known, id)
				} else {
					delete(model, id)
				}
			}
			r = impl.RecOnly(r, known).Rec
		}
		alike(t, "the record", r, recOfModel(model))
		bytes := impl.RecBytes(r)
		if bytes != "" || len(rowOfRec(r)) <= 7990 {
			alike(t, "read", impl.RecRead(bytes, 0), impl.RecOut{Rec: r, At: int64(len(bytes))})
		}
	}
}

func recOfModel(model map[int64]string) impl.Rec {
	r := recOf(77)
	for id := range int64(1001) {
		if text, there := model[id]; there {
			r.Fields = append(r.Fields, fieldOf(id, text))
		}
	}
	return r
}
