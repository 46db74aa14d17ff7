package tests

import (
	"encoding/binary"
	"fmt"
	"hash/crc32"
	"math"
	"math/rand"
	"strings"
	"testing"

	"loop.example/g00446/impl"
)

// someNumbers: ordinary ones, the least and the greatest, and those around which one more byte is needed.
func someNumbers() []int64 {
	list := []int64{0, 1, -1, 2, -2, 5, 42, -42, 1000, -1000, 123456789, -987654321, math.MaxInt64, math.MinInt64, math.MaxInt64 - 1, math.MinInt64 + 1}
	for bits := 6; bits < 63; bits++ {
		edge := int64(1) << bits
		list = append(list, edge-1, edge, edge+1, -edge-1, -edge, -edge+1)
	}
	return list
}

func TestPutNumByHand(t *testing.T) {
	cases := []struct {
		n    int64
		want string
	}{
		{0, "\x00"},
		{-1, "\x01"},
		{1, "\x02"},
		{-2, "\x03"},
		{63, "\x7e"},
		{-64, "\x7f"},
		{64, "\x80\x01"},
		{-65, "\x81\x01"},
		{150, "\xac\x02"},
		{8191, "\xfe\x7f"},
		{-8192, "\xff\x7f"},
		{8192, "\x80\x80\x01"},
		{-8193, "\x81\x80\x01"},
		{1<<62 - 1, "\xfe\xff\xff\xff\xff\xff\xff\xff\x7f"},
		{-1 << 62, "\xff\xff\xff\xff\xff\xff\xff\xff\x7f"},
		{1 << 62, "\x80\x80\x80\x80\x80\x80\x80\x80\x80\x01"},
		{-1<<62 - 1, "\x81\x80\x80\x80\x80\x80\x80\x80\x80\x01"},
		{math.MaxInt64, "\xfe\xff\xff\xff\xff\xff\xff\xff\xff\x01"},
		{math.MinInt64, "\xff\xff\xff\xff\xff\xff\xff\xff\xff\x01"},
	}
	for _, c := range cases {
		same(t, fmt.Sprintf("PutNum(%d)", c.n), impl.PutNum(c.n), c.want)
		same(t, fmt.Sprintf("GetNum of %d", c.n), impl.GetNum(c.want, 0), impl.NumOut{N: c.n, At: int64(len(c.want))})
	}
}

func TestNumbersComeBack(t *testing.T) {
	for _, n := range someNumbers() {
		bytes := impl.PutNum(n)
		same(t, fmt.Sprintf("PutNum(%d)", n), bytes, string(binary.AppendVarint(nil, n)))
		end := int64(len(bytes))
		same(t, fmt.Sprintf("%d alone", n), impl.GetNum(bytes, 0), impl.NumOut{N: n, At: end})
		same(t, fmt.Sprintf("%d in the middle", n), impl.GetNum("\xff\x80x"+bytes+"\xff\x00", 3), impl.NumOut{N: n, At: 3 + end})
		same(t, fmt.Sprintf("%d at the end", n), impl.GetNum("abc"+bytes, 3), impl.NumOut{N: n, At: 3 + end})
	}
}

func TestNumbersEndTooEarly(t *testing.T) {
	for _, n := range someNumbers() {
		bytes := impl.PutNum(n)
		for cut := range len(bytes) {
			same(t, fmt.Sprintf("%d cut to %d bytes", n, cut), impl.GetNum("ab"+bytes[:cut], 2), impl.NumOut{Code: impl.ErrShort})
		}
	}
}

func TestGetNumFaults(t *testing.T) {
	nine := strings.Repeat("\x80", 9)
	cases := []struct {
		what string
		text string
		at   int64
		code int64
	}{
		{"no bytes", "", 0, impl.ErrShort},
		{"at the end", "\x02", 1, impl.ErrShort},
		{"behind the end", "\x02", 2, impl.ErrShort},
		{"far behind the end", "\x02", math.MaxInt64, impl.ErrShort},
		{"below 0", "\x02", -1, impl.ErrForm},
		{"far below 0", "\x02", math.MinInt64, impl.ErrForm},
		{"below 0, of no bytes", "", -1, impl.ErrForm},
		{"nine bytes, none the last", nine, 0, impl.ErrShort},
		{"a tenth byte of 2", nine + "\x02", 0, impl.ErrSyntax},
		{"a tenth byte of 127", nine + "\x7f", 0, impl.ErrSyntax},
		{"a tenth byte of 128", nine + "\x80", 0, impl.ErrSyntax},
		{"a tenth byte of 129", nine + "\x81", 0, impl.ErrSyntax},
		{"a tenth byte of 255, and an eleventh", nine + "\xff\x01", 0, impl.ErrSyntax},
		{"a tenth byte of 0", nine + "\x00", 0, impl.ErrSyntax},
		{"0 in two bytes", "\x80\x00", 0, impl.ErrSyntax},
		{"64 in three bytes", "\x80\x81\x00", 0, impl.ErrSyntax},
		{"-1 in ten bytes", "\x81" + nine[1:] + "\x00", 0, impl.ErrSyntax},
		{"more bytes than needed, in the middle", "ab\xff\x00cd", 2, impl.ErrSyntax},
		{"too long", tooLong(), 0, impl.ErrSize},
		{"too long, below 0", tooLong(), -1, impl.ErrSize},
		{"too long, behind the end", tooLong(), impl.MaxBytes + 5, impl.ErrSize},
	}
	for _, c := range cases {
		same(t, "GetNum: "+c.what, impl.GetNum(c.text, c.at), impl.NumOut{Code: c.code})
		same(t, "GetText: "+c.what, impl.GetText(c.text, c.at), impl.TextOut{Code: c.code})
	}
}

func TestGetNumInALongText(t *testing.T) {
	text := long(impl.MaxBytes-1) + "\x02"
	same(t, "the last byte", impl.GetNum(text, impl.MaxBytes-1), impl.NumOut{N: 1, At: impl.MaxBytes})
	same(t, "the end", impl.GetNum(text, impl.MaxBytes), impl.NumOut{Code: impl.ErrShort})
}

// TestGetNumJustOfPutNum: whatever the bytes are, a number is told just where PutNum of it stands.
func TestGetNumJustOfPutNum(t *testing.T) {
	random := rand.New(rand.NewSource(1))
	for range 40000 {
		bytes := make([]byte, random.Intn(13))
		for i := range bytes {
			bytes[i] = []byte{0, 1, 2, 127, 128, 129, 255, 255, 255, byte(random.Intn(256))}[random.Intn(10)]
		}
		text := string(bytes)
		at := random.Intn(len(text) + 1)
		got := impl.GetNum(text, int64(at))
		if want := plainGetNum(text, at); got != want {
			t.Fatalf("GetNum(%q, %d): got %+v, want %+v", text, at, got, want)
		}
		if got.Code == impl.OK && impl.PutNum(got.N) != text[at:got.At] {
			t.Fatalf("GetNum(%q, %d): got %+v, which is not written so", text, at, got)
		}
	}
}

// plainGetNum does it the other way round: it looks for the end first, and holds the bytes against those of the library.
func plainGetNum(text string, at int) impl.NumOut {
	for end := at; end < len(text); end++ {
		if text[end] >= 128 && end-at < 9 {
			continue
		}
		n, size := binary.Varint([]byte(text[at : end+1]))
		if size <= 0 || string(binary.AppendVarint(nil, n)) != text[at:end+1] {
			return impl.NumOut{Code: impl.ErrSyntax}
		}
		return impl.NumOut{N: n, At: int64(end + 1)}
	}
	return impl.NumOut{Code: impl.ErrShort}
}

func TestTextsComeBack(t *testing.T) {
	texts := []string{"", "a", "ab", "two words", "\x00", "\xff\x80\n", "é€", long(63), long(64), long(127), long(128), long(8000 - 2)}
	for _, text := range texts {
		bytes := impl.PutText(text)
		what := fmt.Sprintf("a text of %d bytes", len(text))
		same(t, what+", put", bytes, impl.PutNum(int64(len(text)))+text)
		same(t, what+", alone", impl.GetText(bytes, 0), impl.TextOut{Text: text, At: int64(len(bytes))})
		if len(bytes)+5 <= impl.MaxBytes {
			same(t, what+", in the middle", impl.GetText("abc"+bytes+"de", 3), impl.TextOut{Text: text, At: int64(3 + len(bytes))})
		}
		for cut := range min(len(bytes), 200) {
			same(t, fmt.Sprintf("%s, cut to %d", what, cut), impl.GetText(bytes[:cut], 0), impl.TextOut{Code: impl.ErrShort})
		}
		same(t, what+", without its last byte", impl.GetText(bytes[:len(bytes)-1], 0), impl.TextOut{Code: impl.ErrShort})
	}
}

func TestTextsOneBehindTheOther(t *testing.T) {
	row := impl.PutText("one") + impl.PutNum(-70) + impl.PutText("") + impl.PutText("two")
	one := impl.GetText(row, 0)
	same(t, "one", one, impl.TextOut{Text: "one", At: 4})
	n := impl.GetNum(row, one.At)
	same(t, "number", n, impl.NumOut{N: -70, At: 6})
	none := impl.GetText(row, n.At)
	same(t, "none", none, impl.TextOut{At: 7})
	same(t, "two", impl.GetText(row, none.At), impl.TextOut{Text: "two", At: int64(len(row))})
}

func TestPutTextLimits(t *testing.T) {
	most := long(impl.MaxBytes)
	same(t, "MaxBytes", impl.PutText(most), "\x80\x7d"+most)
	same(t, "one byte more", impl.PutText(tooLong()), "")
	same(t, "far more", impl.PutText(long(3*impl.MaxBytes)), "")
}

func TestGetTextLengths(t *testing.T) {
	cases := []struct {
		what string
		text string
		code int64
	}{
		{"a length of -1", impl.PutNum(-1) + "abc", impl.ErrSyntax},
		{"the least length", impl.PutNum(math.MinInt64) + "abc", impl.ErrSyntax},
		{"a length of MaxBytes", impl.PutNum(impl.MaxBytes) + "abc", impl.ErrShort},
		{"MaxBytes, as full as may be", impl.PutNum(impl.MaxBytes) + long(impl.MaxBytes-2), impl.ErrShort},
		{"a length of MaxBytes and 1", impl.PutNum(impl.MaxBytes+1) + "abc", impl.ErrSyntax},
		{"the greatest length", impl.PutNum(math.MaxInt64) + "abc", impl.ErrSyntax},
		{"a length of 2^32", impl.PutNum(1<<32) + "abc", impl.ErrSyntax},
		{"one byte too few", impl.PutNum(4) + "abc", impl.ErrShort},
		{"its bytes, too long to be looked at", impl.PutText(long(impl.MaxBytes)), impl.ErrSize},
	}
	for _, c := range cases {
		same(t, c.what, impl.GetText(c.text, 0), impl.TextOut{Code: c.code})
	}
}

func TestNameRight(t *testing.T) {
	right := []string{"a", "z", "m", "a0", "a9", "a_", "a__", "az", "base", "journal", "x_1", "abcdefghij0123456789", "zzzzzzzzzzzzzzzzzzzz"}
	for _, name := range right {
		same(t, "right: "+name, impl.NameRight(name), true)
	}
	wrong := []string{"", "0", "9", "_", "0a", "9a", "_a", "abcdefghij0123456789a", long(21), long(300), tooLong()}
	for _, name := range wrong {
		same(t, "wrong: "+name, impl.NameRight(name), false)
	}
}

func TestNameRightByteByByte(t *testing.T) {
	for b := range 256 {
		one := string([]byte{byte(b)})
		first := strings.Contains("abcdefghijklmnopqrstuvwxyz", one)
		later := first || strings.Contains("0123456789_", one)
		same(t, fmt.Sprintf("byte %d alone", b), impl.NameRight(one), first)
		same(t, fmt.Sprintf("byte %d first", b), impl.NameRight(one+"bc"), first)
		same(t, fmt.Sprintf("byte %d second", b), impl.NameRight("a"+one+"c"), later)
		same(t, fmt.Sprintf("byte %d twentieth", b), impl.NameRight(long(19)+one), later)
	}
}

func TestCrc(t *testing.T) {
	same(t, "none", impl.Crc(""), 0)
	same(t, "123456789", impl.Crc("123456789"), 0xCBF43926)
	same(t, "a", impl.Crc("a"), 0xE8B7BE43)
	for b := range 256 {
		one := string([]byte{byte(b)})
		same(t, fmt.Sprintf("byte %d", b), impl.Crc(one), int64(crc32.ChecksumIEEE([]byte(one))))
	}
	for _, size := range []int{2, 3, 100, 4095, 7999, 8000} {
		same(t, fmt.Sprintf("%d bytes", size), impl.Crc(long(size)), int64(crc32.ChecksumIEEE([]byte(long(size)))))
	}
	same(t, "MaxBytes and 1", impl.Crc(tooLong()), 0)
}

func TestCrcGoesOn(t *testing.T) {
	texts := []string{"", "a", "123456789", "\x00\x00", "\xff", long(500), long(4000)}
	for _, a := range texts {
		for _, b := range texts {
			what := fmt.Sprintf("%d bytes and %d", len(a), len(b))
			same(t, what, impl.CrcMore(impl.Crc(a), b), impl.Crc(a+b))
		}
	}
	most := long(impl.MaxBytes)
	both := int64(crc32.ChecksumIEEE([]byte(most + most)))
	same(t, "twice MaxBytes", impl.CrcMore(impl.Crc(most), most), both)
}

func TestCrcMoreLimits(t *testing.T) {
	same(t, "the least crc", impl.CrcMore(0, "a"), impl.Crc("a"))
	most := int64(crc32.Update(math.MaxUint32, crc32.IEEETable, []byte("a")))
	same(t, "the greatest crc", impl.CrcMore(1<<32-1, "a"), most)
	same(t, "the greatest crc, and none", impl.CrcMore(1<<32-1, ""), 1<<32-1)
	for _, crc := range []int64{-1, 1 << 32, 1<<32 + 5, math.MinInt64, math.MaxInt64} {
		same(t, fmt.Sprintf("crc %d", crc), impl.CrcMore(crc, "a"), 0)
		same(t, fmt.Sprintf("crc %d, and none", crc), impl.CrcMore(crc, ""), 0)
	}
	same(t, "MaxBytes and 1", impl.CrcMore(5, tooLong()), 0)
}

func TestSealedTextsComeBack(t *testing.T) {
	same(t, "by hand", impl.Seal("123456789"), "123456789\x26\x39\xf4\xcb")
	same(t, "none, by hand", impl.Seal(""), "\x00\x00\x00\x00")
	for _, text := range []string{"", "a", "ab", "\x00\x00\x00\x00", "\xff\n\xff", long(5), long(1000), long(impl.MaxBytes - 5), long(impl.MaxBytes - 4)} {
		what := fmt.Sprintf("%d bytes", len(text))
		sealed := impl.Seal(text)
		sum := binary.LittleEndian.AppendUint32(nil, crc32.ChecksumIEEE([]byte(text)))
		same(t, what+", sealed", sealed, text+string(sum))
		same(t, what+", back", impl.Unseal(sealed), impl.TextOut{Text: text})
	}
}

func TestSealLimits(t *testing.T) {
	same(t, "MaxBytes less 3", impl.Seal(long(impl.MaxBytes-3)), "")
	same(t, "MaxBytes", impl.Seal(long(impl.MaxBytes)), "")
	same(t, "MaxBytes and 1", impl.Seal(tooLong()), "")
}

func TestUnsealFaults(t *testing.T) {
	for size := range 4 {
		same(t, fmt.Sprintf("%d bytes", size), impl.Unseal(strings.Repeat("\x00", size)), impl.TextOut{Code: impl.ErrShort})
	}
	wrong := []string{"\x00\x00\x00\x01", "\xff\xff\xff\xff", "abcd", "123456789\xcb\xf4\x39\x26", impl.Seal("ab") + "x", impl.Seal("ab")[1:], impl.Seal("ab")[:5], long(impl.MaxBytes)}
	for _, text := range wrong {
		same(t, "no seal", impl.Unseal(text), impl.TextOut{Code: impl.ErrSum})
	}
	sum := binary.LittleEndian.AppendUint32(nil, crc32.ChecksumIEEE([]byte(long(impl.MaxBytes-3))))
	same(t, "MaxBytes and 1", impl.Unseal(long(impl.MaxBytes-3)+string(sum)), impl.TextOut{Code: impl.ErrSize})
}

func TestOneByteTurned(t *testing.T) {
	for _, text := range []string{"", "a", "a sealed text", "\x00\xff\x00", long(60)} {
		sealed := []byte(impl.Seal(text))
		for at, kept := range sealed {
			for turn := 1; turn < 256; turn++ {
				sealed[at] = kept ^ byte(turn)
				same(t, fmt.Sprintf("%d bytes, byte %d turned by %d", len(text), at, turn), impl.Unseal(string(sealed)), impl.TextOut{Code: impl.ErrSum})
			}
			sealed[at] = kept
		}
	}
}

func TestOneByteOfManyTurned(t *testing.T) {
	sealed := []byte(impl.Seal(long(impl.MaxBytes - 4)))
	for _, at := range []int{0, 1, 4000, 7994, 7995, 7996, 7999} {
		sealed[at] ^= 1
		same(t, fmt.Sprintf("byte %d", at), impl.Unseal(string(sealed)), impl.TextOut{Code: impl.ErrSum})
		sealed[at] ^= 1
	}
}

func TestAnswersAreNewMemory(t *testing.T) {
	row := impl.PutText("some text of ordinary length")
	same(t, "GetText", sharesMemory(row, impl.GetText(row, 0).Text), false)
	sealed := impl.Seal("some text of ordinary length")
	same(t, "Unseal", sharesMemory(sealed, impl.Unseal(sealed).Text), false)
	text := strings.Clone("some text of ordinary length")
	same(t, "PutText", sharesMemory(text, impl.PutText(text)), false)
	same(t, "Seal", sharesMemory(text, impl.Seal(text)), false)
}
