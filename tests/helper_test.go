package tests

import (
	"slices"
	"testing"
)

// dice makes numbers that look thrown but are the same in every run.
type dice uint64

func (d *dice) below(n int) int {
	*d = *d*6364136223846793005 + 1442695040888963407
	return int(uint64(*d) >> 33 % uint64(n))
}

// guarded is a list with spare room behind it, and copies that tell whether
// somebody wrote into either.
type guarded[T comparable] struct {
	list  []T
	whole []T
	was   []T
}

// guard lays list in new memory, with the things of behind in its spare room.
func guard[T comparable](list []T, behind ...T) guarded[T] {
	whole := slices.Concat(list, behind)
	return guarded[T]{list: whole[:len(list)], whole: whole, was: slices.Clone(whole)}
}

func (g guarded[T]) check(t *testing.T, what string) {
	t.Helper()
	if !slices.Equal(g.whole, g.was) {
		t.Errorf("%s: an argument, or the room behind it, was written into", what)
	}
}

// scribble writes another value over all of a list and its spare room.
func scribble[T any](list []T, with T) {
	list = list[:cap(list)]
	for i := range list {
		list[i] = with
	}
}
