package tests

import (
	"fmt"
	"reflect"
	"strings"
	"testing"
)

// span is the memory of one list, with the spare capacity behind it.
type span struct {
	name string
	from uintptr
	to   uintptr
}

// spansOf returns the memory of every list in v, also of those in elements that
// are behind the length of another.
func spansOf(name string, v reflect.Value) []span {
	var out []span
	switch v.Kind() {
	case reflect.Struct:
		for at := range v.NumField() {
			out = append(out, spansOf(name+"."+v.Type().Field(at).Name, v.Field(at))...)
		}
	case reflect.Slice:
		whole := v.Slice(0, v.Cap())
		if size := uintptr(v.Cap()) * v.Type().Elem().Size(); size > 0 {
			out = append(out, span{name, v.Pointer(), v.Pointer() + size})
		}
		for at := range whole.Len() {
			out = append(out, spansOf(fmt.Sprintf("%s[%d]", name, at), whole.Index(at))...)
		}
	}
	return out
}

// wantOwnMemory fails if two lists of result share memory, or one of result and
// one of the arguments.
func wantOwnMemory(t *testing.T, what string, result any, arguments ...any) {
	t.Helper()
	own := spansOf("result", reflect.ValueOf(result))
	others := own
	for at, v := range arguments {
		others = append(others, spansOf(fmt.Sprintf("argument %d", at), reflect.ValueOf(v))...)
	}
	for at, a := range own {
		for _, b := range others[at+1:] {
			if a.from < b.to && b.from < a.to {
				t.Errorf("%s: %s and %s share memory", what, a.name, b.name)
			}
		}
	}
}

// wholeText shows a value with the spare capacity of all its lists.
func wholeText(v reflect.Value) string {
	var parts []string
	switch v.Kind() {
	case reflect.Struct:
		for at := range v.NumField() {
			parts = append(parts, wholeText(v.Field(at)))
		}
	case reflect.Slice:
		whole := v.Slice(0, v.Cap())
		parts = append(parts, fmt.Sprint(v.Len(), ":"))
		for at := range whole.Len() {
			parts = append(parts, wholeText(whole.Index(at)))
		}
	default:
		return fmt.Sprint(v)
	}
	return "{" + strings.Join(parts, " ") + "}"
}
