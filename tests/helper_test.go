package tests

import (
	"fmt"
	"strings"
	"testing"
	"unsafe"

	"loop.example/g00446/impl"
)

// same shortens what it shows, as some texts here have thousands of bytes.
func same[T comparable](t *testing.T, what string, got T, want T) {
	t.Helper()
	if got != want {
		t.Errorf("%s: got %.200s, want %.200s", what, fmt.Sprintf("%#v", got), fmt.Sprintf("%#v", want))
	}
}

func long(size int) string {
	return strings.Repeat("abcdefg", size/7+1)[:size]
}

func tooLong() string {
	return long(impl.MaxBytes + 1)
}

// sharesMemory: does any byte of part stand where one of whole does?
func sharesMemory(whole string, part string) bool {
	if len(whole) == 0 || len(part) == 0 {
		return false
	}
	w := uintptr(unsafe.Pointer(unsafe.StringData(whole)))
	p := uintptr(unsafe.Pointer(unsafe.StringData(part)))
	return p < w+uintptr(len(whole)) && w < p+uintptr(len(part))
}
