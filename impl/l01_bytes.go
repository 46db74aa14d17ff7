package impl

import (
	"errors"
	"strconv"
)

// Constants, see chapter 1.
const (
	OK        = 0
	ErrForm   = 1
	ErrSize   = 2
	ErrSyntax = 3
	ErrShort  = 4
	ErrSum    = 5
	ErrNone   = 6
	ErrThere  = 7
	ErrRange  = 8
	ErrFull   = 9
	ErrState  = 10
	ErrCross  = 11
	ErrNew    = 12
	MaxBytes  = 8000
	MaxList   = 400
	MaxTime   = 1000000
)

const (
	maxName   = 20
	maxNumber = 10 // bytes: 64 bits, seven a byte
	sumBytes  = 4
	crcMask   = 0xEDB88320
	crcMost   = 0xFFFFFFFF
)

// NumOut is a thing of chapter 2.
type NumOut struct {
	N    int64
	At   int64
	Code int64
}

// TextOut is a thing of chapter 2.
type TextOut struct {
	Text string
	At   int64
	Code int64
}

// byteFault is why bytes could not be read; its code is what the faces tell.
type byteFault struct {
	code int64
}

func (f byteFault) Error() string {
	return "bytes can't be read: code " + strconv.FormatInt(f.code, 10)
}

func codeOfBytes(err error) int64 {
	var fault byteFault
	if errors.As(err, &fault) {
		return fault.code
	}
	return OK
}

// PutNum: see chapter 2.
func PutNum(n int64) string {
	var out [maxNumber]byte
	u := foldSign(n)
	last := 0
	for u >= 128 {
		out[last] = byte(u%128) + 128
		u /= 128
		last++
	}
	out[last] = byte(u)
	return string(out[:last+1])
}

// foldSign adds 1 to n before it turns the sign, as the least number has no opposite.
func foldSign(n int64) uint64 {
	if n >= 0 {
		return 2 * uint64(n)
	}
	return 2*uint64(-(n+1)) + 1
}

func unfoldSign(u uint64) int64 {
	half := int64(u / 2)
	if u%2 == 0 {
		return half
	}
	return -half - 1
}

// GetNum: see chapter 2.
func GetNum(text string, at int64) NumOut {
	n, next, err := readNum(text, at)
	return NumOut{N: n, At: next, Code: codeOfBytes(err)}
}

func readNum(text string, at int64) (int64, int64, error) {
	var u uint64
	var b byte
	var code int64
	shift := 0
	next := at
	if len(text) > MaxBytes {
		code = ErrSize
		goto wrong
	}
	if at < 0 {
		code = ErrForm
		goto wrong
	}
more:
	if next >= int64(len(text)) {
		code = ErrShort
		goto wrong
	}
	b = text[next]
	next++
	// Only one of the 64 bits is left for the tenth byte.
	if shift == 7*(maxNumber-1) && b > 1 {
		code = ErrSyntax
		goto wrong
	}
	u |= uint64(b%128) << shift
	if b < 128 {
		goto last
	}
	shift += 7
	goto more
last:
	// A highest byte of no bits was not needed, but for the number 0.
	if b == 0 && shift > 0 {
		code = ErrSyntax
		goto wrong
	}
	return unfoldSign(u), next, nil
wrong:
	return 0, 0, byteFault{code: code}
}

// PutText: see chapter 2.
func PutText(t string) string {
	if len(t) > MaxBytes {
		return ""
	}
	return joinTexts(PutNum(int64(len(t))), t)
}

func joinTexts(parts ...string) string {
	size := 0
	for _, part := range parts {
		size += len(part)
	}
	out := make([]byte, size)
	at := 0
	for _, part := range parts {
		at += copy(out[at:], part)
	}
	return string(out)
}

// GetText: see chapter 2.
func GetText(text string, at int64) TextOut {
	t, next, err := readText(text, at)
	return TextOut{Text: t, At: next, Code: codeOfBytes(err)}
}

func readText(text string, at int64) (string, int64, error) {
	size, from, err := readNum(text, at)
	if err != nil {
		return "", 0, err
	}
	if size < 0 || size > MaxBytes {
		return "", 0, byteFault{code: ErrSyntax}
	}
	if size > int64(len(text))-from {
		return "", 0, byteFault{code: ErrShort}
	}
	return copyText(text[from : from+size]), from + size, nil
}

// copyText is there as a piece of a text shares its memory, and an answer may not.
func copyText(t string) string {
	out := make([]byte, len(t))
	copy(out, t)
	return string(out)
}

// NameRight: see chapter 2.
func NameRight(t string) bool {
	if len(t) < 1 || len(t) > maxName || !smallLetter(t[0]) {
		return false
	}
	for at := 1; at < len(t); at++ {
		if !nameByte(t[at]) {
			return false
		}
	}
	return true
}

func smallLetter(b byte) bool {
	return b >= 'a' && b <= 'z'
}

func nameByte(b byte) bool {
	return smallLetter(b) || b >= '0' && b <= '9' || b == '_'
}

// Crc: see chapter 2.
func Crc(text string) int64 {
	// The register's all ones, turned, are the CRC 0: the one of the empty text.
	return CrcMore(0, text)
}

// CrcMore: see chapter 2.
func CrcMore(crc int64, text string) int64 {
	if len(text) > MaxBytes || crc < 0 || crc > crcMost {
		return 0
	}
	register := ^uint32(crc)
	for at := 0; at < len(text); at++ {
		register = crcByte(register, text[at])
	}
	return int64(^register)
}

func crcByte(register uint32, b byte) uint32 {
	// Putting the whole byte in first does the same as bit by bit: each bit is lowest in its turn.
	register ^= uint32(b)
	for range 8 {
		low := register % 2
		register /= 2
		if low == 1 {
			register ^= crcMask
		}
	}
	return register
}

// Seal: see chapter 2.
func Seal(text string) string {
	if len(text) > MaxBytes-sumBytes {
		return ""
	}
	return joinTexts(text, sumText(Crc(text)))
}

func sumText(crc int64) string {
	var out [sumBytes]byte
	for i := range out {
		out[i] = byte(crc % 256)
		crc /= 256
	}
	return string(out[:])
}

// Unseal: see chapter 2.
func Unseal(text string) TextOut {
	t, err := readSealed(text)
	return TextOut{Text: t, Code: codeOfBytes(err)}
}

func readSealed(text string) (string, error) {
	if len(text) > MaxBytes {
		return "", byteFault{code: ErrSize}
	}
	if len(text) < sumBytes {
		return "", byteFault{code: ErrShort}
	}
	inner := text[:len(text)-sumBytes]
	if text[len(inner):] != sumText(Crc(inner)) {
		return "", byteFault{code: ErrSum}
	}
	return copyText(inner), nil
}
