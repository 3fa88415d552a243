package tests

import (
	"fmt"
	"reflect"
	"testing"
)

// same reports a difference between a result and what the document requires; a nil slice and an empty one are equal.
func same[T any](t *testing.T, call string, got, want []T) {
	t.Helper()
	if len(got) == 0 && len(want) == 0 {
		return
	}
	if !reflect.DeepEqual(got, want) {
		t.Errorf("%s = %#v, want %#v", call, got, want)
	}
}

// spare returns a copy of l whose capacity reaches beyond its end, and a function that reports whether the copy and what lies behind it are still the same.
func spare[T comparable](l []T, filler T) ([]T, func() bool) {
	whole := append(append([]T{}, l...), filler, filler, filler)
	before := append([]T{}, whole...)
	return whole[:len(l)], func() bool { return reflect.DeepEqual(whole, before) }
}

// overwrite changes l up to its capacity, which would show in whatever shares its memory.
func overwrite[T any](l []T, filler T) {
	for i := range l[:cap(l)] {
		l[:cap(l)][i] = filler
	}
}

// texts returns all strings of up to most of the given pieces.
func texts(pieces []string, most int) []string {
	all := []string{""}
	from := 0
	for range most {
		to := len(all)
		for _, head := range all[from:to] {
			for _, piece := range pieces {
				all = append(all, head+piece)
			}
		}
		from = to
	}
	return all
}

func callOf(name string, args ...any) string {
	text := name + "("
	for i, arg := range args {
		if i > 0 {
			text += ", "
		}
		text += fmt.Sprintf("%#v", arg)
	}
	return text + ")"
}
