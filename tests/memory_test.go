package tests

import (
	"cmp"
	"fmt"
	"reflect"
	"slices"
	"strings"
	"testing"
)

// eachList sees all lists of a value, those in lists too, each with the room behind its end.
func eachList(v reflect.Value, see func(list reflect.Value)) {
	switch v.Kind() {
	case reflect.Slice:
		whole := v.Slice(0, v.Cap())
		see(whole)
		for k := range whole.Len() {
			eachList(whole.Index(k), see)
		}
	case reflect.Struct:
		for k := range v.NumField() {
			eachList(v.Field(k), see)
		}
	}
}

// wholeOf tells values with all that is behind their lists' ends.
func wholeOf(values ...any) string {
	var s strings.Builder
	for _, one := range values {
		fmt.Fprintf(&s, "%+v", one)
		eachList(reflect.ValueOf(one), func(list reflect.Value) { fmt.Fprintf(&s, " %+v", list) })
	}
	return s.String()
}

// listSpan is where a list begins in memory, and where its room ends.
type listSpan struct {
	from, to uintptr
	answered bool
}

func spansOf(values []any, answered bool) []listSpan {
	var out []listSpan
	for _, one := range values {
		eachList(reflect.ValueOf(one), func(list reflect.Value) {
			if list.Len() > 0 {
				from := list.Pointer()
				out = append(out, listSpan{from, from + uintptr(list.Len())*list.Type().Elem().Size(), answered})
			}
		})
	}
	return out
}

// mustBeApart asks that no list of what was answered shares memory with another one of that, or with one of what was given.
func mustBeApart(t *testing.T, given, answers []any) {
	t.Helper()
	spans := append(spansOf(given, false), spansOf(answers, true)...)
	slices.SortFunc(spans, func(a, b listSpan) int { return cmp.Compare(a.from, b.from) })
	var end, answersEnd uintptr
	for _, s := range spans {
		if s.from < answersEnd || s.answered && s.from < end {
			t.Fatalf("two lists share memory, of %+v and %+v", given, answers)
		}
		end = max(end, s.to)
		if s.answered {
			answersEnd = max(answersEnd, s.to)
		}
	}
}
