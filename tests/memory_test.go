package tests

import (
	"fmt"
	"reflect"
	"strings"
	"testing"
)

// span is the memory of one list, its spare room being part of it.
type span struct {
	from, to uintptr
	where    string
}

func addSpans(out []span, v reflect.Value, where string) []span {
	switch v.Kind() {
	case reflect.Slice:
		if size := uintptr(v.Cap()) * v.Type().Elem().Size(); size > 0 {
			out = append(out, span{v.Pointer(), v.Pointer() + size, where})
		}
		for i := range v.Len() {
			out = addSpans(out, v.Index(i), fmt.Sprintf("%s[%d]", where, i))
		}
	case reflect.Struct:
		for i := range v.NumField() {
			out = addSpans(out, v.Field(i), where+"."+v.Type().Field(i).Name)
		}
	}
	return out
}

// wantApart holds that no two lists of the answer share memory, and none with an argument.
func wantApart(t *testing.T, answer any, args ...any) {
	t.Helper()
	own := addSpans(nil, reflect.ValueOf(answer), "answer")
	var others []span
	for i, a := range args {
		others = addSpans(others, reflect.ValueOf(a), fmt.Sprintf("argument %d", i))
	}
	for i, a := range own {
		for _, b := range append(own[:i:i], others...) {
			if a.from < b.to && b.from < a.to {
				t.Fatalf("%s shares memory with %s: %v", a.where, b.where, answer)
			}
		}
	}
}

// snapshot tells all of v, what lies behind the lengths of its lists with it.
func snapshot(v any) string {
	var out strings.Builder
	addSnapshot(&out, reflect.ValueOf(v))
	return out.String()
}

func addSnapshot(out *strings.Builder, v reflect.Value) {
	switch v.Kind() {
	case reflect.Slice:
		fmt.Fprintf(out, "%d[", v.Len())
		whole := v.Slice(0, v.Cap())
		for i := range whole.Len() {
			addSnapshot(out, whole.Index(i))
		}
		out.WriteString("]")
	case reflect.Struct:
		out.WriteString("{")
		for i := range v.NumField() {
			addSnapshot(out, v.Field(i))
		}
		out.WriteString("}")
	default:
		fmt.Fprintf(out, "%v ", v)
	}
}

func roomyBytes(b []byte) []byte {
	room := append(append(make([]byte, 0, len(b)+3), b...), "abc"...)
	return room[:len(b)]
}
