package tests

import (
	"fmt"
	"reflect"
	"testing"
	"unsafe"
)

// same reports a difference between a result and what the document requires; a nil slice and an empty one are equal.
func same[T any](t *testing.T, call string, got, want []T) {
	t.Helper()
	if len(got) == 0 && len(want) == 0 {
		return
	}
	if !reflect.DeepEqual(got, want) {
		t.Errorf("%s = %#v, want %#v", call, got, want)
	}
}

// spare returns a copy of l whose capacity reaches beyond its end, and a function that reports whether the copy and what lies behind it are still the same.
func spare[T comparable](l []T, filler T) ([]T, func() bool) {
	whole := append(append([]T{}, l...), filler, filler, filler)
	before := append([]T{}, whole...)
	return whole[:len(l)], func() bool { return reflect.DeepEqual(whole, before) }
}

// overwrite changes l up to its capacity, which would show in whatever shares its memory.
func overwrite[T any](l []T, filler T) {
	for i := range l[:cap(l)] {
		l[:cap(l)][i] = filler
	}
}

// texts returns all strings of up to most of the given pieces.
func texts(pieces []string, most int) []string {
	all := []string{""}
	from := 0
	for range most {
		to := len(all)
		for _, head := range all[from:to] {
			for _, piece := range pieces {
				all = append(all, head+piece)
			}
		}
		from = to
	}
	return all
}

func callOf(name string, args ...any) string {
	text := name + "("
	for i, arg := range args {
		if i > 0 {
			text += ", "
		}
		text += fmt.Sprintf("%#v", arg)
	}
	return text + ")"
}

// span is the memory of a slice, up to its capacity, or of a string.
type span struct{ from, end uintptr }

// spansOf returns the memory of all slices and strings in a value, at every depth.
func spansOf(v reflect.Value) []span {
	var all []span
	switch v.Kind() {
	case reflect.Struct:
		for i := range v.NumField() {
			all = append(all, spansOf(v.Field(i))...)
		}
	case reflect.Slice:
		all = append(all, span{v.Pointer(), v.Pointer() + uintptr(v.Cap())*v.Type().Elem().Size()})
		for i := range v.Len() {
			all = append(all, spansOf(v.Index(i))...)
		}
	case reflect.String:
		from := uintptr(unsafe.Pointer(unsafe.StringData(v.String())))
		all = append(all, span{from, from + uintptr(v.Len())})
	}
	return all
}

// checkNew reports memory that a result has in common with an argument, or twice within itself.
func checkNew(t *testing.T, call string, result any, args ...any) {
	t.Helper()
	var others []span
	for _, arg := range args {
		others = append(others, spansOf(reflect.ValueOf(arg))...)
	}
	for _, own := range spansOf(reflect.ValueOf(result)) {
		for _, other := range others {
			if own.from < other.end && other.from < own.end {
				t.Errorf("%s shares memory", call)
				return
			}
		}
		others = append(others, own)
	}
}
