package mapreduce

import (
	"slices"

	"mapreduce/heap"
)

// head is a run's first thing that is not told yet.
type head[T any] struct {
	thing T
	run   int
	next  int // where the run goes on
}

// headOrder puts the least thing first, of alike ones that of the earliest run.
func headOrder[T any](less func(a, b T) bool) func(a, b head[T]) bool {
	return func(a, b head[T]) bool {
		if less(a.thing, b.thing) {
			return true
		}
		return a.run < b.run && !less(b.thing, a.thing)
	}
}

func copyRuns[T any](runs [][]T) [][]T {
	own := make([][]T, len(runs))
	for i, run := range runs {
		own[i] = slices.Clone(run)
	}
	return own
}

func firstHeads[T any](runs [][]T) []head[T] {
	var heads []head[T]
	for i, run := range runs {
		if len(run) > 0 {
			heads = append(heads, head[T]{thing: run[0], run: i, next: 1})
		}
	}
	return heads
}

func tellMerged[T any](less func(a, b T) bool, runs [][]T, yield func(T) bool) {
	heads := heap.New(headOrder(less), firstHeads(runs)...)
	for first, ok := heads.Pop(); ok; first, ok = heads.Pop() {
		if !yield(first.thing) {
			return
		}
		if run := runs[first.run]; first.next < len(run) {
			heads.Push(head[T]{thing: run[first.next], run: first.run, next: first.next + 1})
		}
	}
}
