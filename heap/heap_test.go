package heap_test

import (
	"slices"
	"testing"

	"mapreduce/heap"
)

func numberLess(a, b int) bool { return a < b }

func drain[T any](h *heap.Heap[T]) []T {
	var out []T
	for x, ok := h.Pop(); ok; x, ok = h.Pop() {
		out = append(out, x)
	}
	return out
}

// every calls do with each list of n numbers below limit.
func every(n, limit int, do func(list []int)) {
	list := make([]int, n)
	for {
		do(list)
		at := 0
		for ; at < n; at++ {
			if list[at]++; list[at] < limit {
				break
			}
			list[at] = 0
		}
		if at == n {
			return
		}
	}
}

func TestPopTellsTheLeast(t *testing.T) {
	for n := range 7 {
		every(n, 5, func(list []int) {
			if got := drain(heap.New(numberLess, list...)); !slices.Equal(got, slices.Sorted(slices.Values(list))) {
				t.Fatalf("%v came out as %v", list, got)
			}
		})
	}
}

func TestPushBetweenPops(t *testing.T) {
	every(7, 4, func(list []int) {
		h := heap.New(numberLess, list[:3]...)
		rest := slices.Clone(list[:3])
		for _, x := range list[3:] {
			got, ok := h.Pop()
			if least := slices.Min(rest); !ok || got != least {
				t.Fatalf("%v: Pop = %d, %v, want %d", list, got, ok, least)
			}
			rest = slices.Delete(rest, slices.Index(rest, got), slices.Index(rest, got)+1)
			h.Push(x)
			rest = append(rest, x)
		}
	})
}

func TestEmpty(t *testing.T) {
	h := heap.New(func(a, b string) bool { return a < b })
	if x, ok := h.Pop(); x != "" || ok {
		t.Errorf("Pop of none = %q, %v", x, ok)
	}
	h.Push("x")
	if x, ok := h.Pop(); x != "x" || !ok {
		t.Errorf("Pop of one = %q, %v", x, ok)
	}
	if x, ok := h.Pop(); x != "" || ok {
		t.Errorf("Pop of none left = %q, %v", x, ok)
	}
}

func TestThingsGivenAreOnlyRead(t *testing.T) {
	given := []int{3, 1, 2}
	h := heap.New(numberLess, given...)
	given[1] = 9
	if got := drain(h); !slices.Equal(got, []int{1, 2, 3}) || !slices.Equal(given, []int{3, 9, 2}) {
		t.Errorf("the heap told %v, the list is %v", got, given)
	}
}
