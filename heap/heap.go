// Package heap: things of any kind, of which the least is always at hand.
package heap

// Heap holds things; the zero value has no order and is not to be used: New makes one.
type Heap[T any] struct {
	less   func(a, b T) bool
	things []T
}

// New makes a heap in the order of less, which holds the things given.
func New[T any](less func(a, b T) bool, things ...T) *Heap[T] {
	h := &Heap[T]{less: less}
	for _, x := range things {
		h.Push(x)
	}
	return h
}

// Push puts a thing in.
func (h *Heap[T]) Push(x T) {
	h.things = append(h.things, x)
	h.rise(len(h.things) - 1)
}

// Pop takes the least thing out; false, if the heap is empty.
func (h *Heap[T]) Pop() (T, bool) {
	var none T
	if len(h.things) == 0 {
		return none, false
	}
	least := h.things[0]
	last := len(h.things) - 1
	h.things[0] = h.things[last]
	h.things[last] = none // else the spare room would hold on to it
	h.things = h.things[:last]
	h.sink(0)
	return least, true
}

func (h *Heap[T]) rise(at int) {
	for at > 0 {
		above := (at - 1) / 2
		if !h.less(h.things[at], h.things[above]) {
			return
		}
		h.swap(at, above)
		at = above
	}
}

func (h *Heap[T]) sink(at int) {
	for {
		least := h.leastOf(at, 2*at+1, 2*at+2)
		if least == at {
			return
		}
		h.swap(at, least)
		at = least
	}
}

// leastOf tells which of a place and the places below it holds the least thing; places past the end do not count.
func (h *Heap[T]) leastOf(at int, below ...int) int {
	least := at
	for _, b := range below {
		if b < len(h.things) && h.less(h.things[b], h.things[least]) {
			least = b
		}
	}
	return least
}

func (h *Heap[T]) swap(a, b int) {
	h.things[a], h.things[b] = h.things[b], h.things[a]
}
