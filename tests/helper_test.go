package tests

import (
	"fmt"
	"reflect"
	"strings"
	"testing"
	"unsafe"

	"loop.example/g00446/impl"
)

// same shortens what it shows, as some texts here have thousands of bytes.
func same[T comparable](t *testing.T, what string, got T, want T) {
	t.Helper()
	if got != want {
		t.Errorf("%s: got %.200s, want %.200s", what, fmt.Sprintf("%#v", got), fmt.Sprintf("%#v", want))
	}
}

// alike is same for what has lists in it; an empty list and none are the same.
func alike[T any](t *testing.T, what string, got T, want T) {
	t.Helper()
	g, w := flat(reflect.ValueOf(got)), flat(reflect.ValueOf(want))
	if g != w {
		t.Errorf("%s: got %.400s, want %.400s", what, g, w)
	}
}

// flat writes a value out so that two are written alike just if they are.
func flat(v reflect.Value) string {
	var parts []string
	switch v.Kind() {
	case reflect.Slice:
		for i := range v.Len() {
			parts = append(parts, flat(v.Index(i)))
		}
		return "[" + strings.Join(parts, " ") + "]"
	case reflect.Struct:
		for i := range v.NumField() {
			parts = append(parts, v.Type().Field(i).Name+":"+flat(v.Field(i)))
		}
		return "{" + strings.Join(parts, " ") + "}"
	}
	return fmt.Sprintf("%#v", v)
}

// copyOf shares no list with v, so that a later change of v is seen by holding it against this.
func copyOf[T any](v T) T {
	return copyValue(reflect.ValueOf(v)).Interface().(T)
}

func copyValue(v reflect.Value) reflect.Value {
	out := reflect.New(v.Type()).Elem()
	switch v.Kind() {
	case reflect.Slice:
		if v.IsNil() {
			return out
		}
		out.Set(reflect.MakeSlice(v.Type(), v.Len(), v.Len()))
		for i := range v.Len() {
			out.Index(i).Set(copyValue(v.Index(i)))
		}
	case reflect.Struct:
		for i := range v.NumField() {
			out.Field(i).Set(copyValue(v.Field(i)))
		}
	default:
		out.Set(v)
	}
	return out
}

// piece is memory that a value has: a list's items, up to its capacity, or a text's bytes.
type piece struct {
	from, to uintptr
	list     bool
}

func piecesOf(v reflect.Value) []piece {
	var out []piece
	switch v.Kind() {
	case reflect.String:
		if size := uintptr(v.Len()); size > 0 {
			from := uintptr(unsafe.Pointer(unsafe.StringData(v.String())))
			out = append(out, piece{from: from, to: from + size})
		}
	case reflect.Slice:
		if size := uintptr(v.Cap()) * v.Type().Elem().Size(); size > 0 {
			out = append(out, piece{from: v.Pointer(), to: v.Pointer() + size, list: true})
		}
		for i := range v.Len() {
			out = append(out, piecesOf(v.Index(i))...)
		}
	case reflect.Struct:
		for i := range v.NumField() {
			out = append(out, piecesOf(v.Field(i))...)
		}
	}
	return out
}

// fresh: does the answer share no memory with what was handed in, and do no two lists of it share any?
// (A text of one byte may stand in a table of the language's own, for all that have it: it is passed by.)
func fresh(t *testing.T, what string, answer any, given ...any) {
	t.Helper()
	mine := piecesOf(reflect.ValueOf(answer))
	for i, a := range mine {
		for _, b := range mine[:i] {
			if a.list && b.list && a.from < b.to && b.from < a.to {
				t.Errorf("%s: two lists of the answer share memory", what)
			}
		}
	}
	for _, g := range given {
		for _, b := range piecesOf(reflect.ValueOf(g)) {
			for _, a := range mine {
				if a.from < b.to && b.from < a.to && a.to-a.from > 1 {
					t.Errorf("%s: the answer shares memory with what was handed in", what)
				}
			}
		}
	}
}

func long(size int) string {
	return strings.Repeat("abcdefg", size/7+1)[:size]
}

func tooLong() string {
	return long(impl.MaxBytes + 1)
}

// made is a text in memory of its own, as one that is written out stands in the program itself.
func made(text string) string {
	return string([]byte(text))
}

// sharesMemory: does any byte of part stand where one of whole does?
func sharesMemory(whole string, part string) bool {
	if len(whole) == 0 || len(part) == 0 {
		return false
	}
	w := uintptr(unsafe.Pointer(unsafe.StringData(whole)))
	p := uintptr(unsafe.Pointer(unsafe.StringData(part)))
	return p < w+uintptr(len(whole)) && w < p+uintptr(len(part))
}
