package mapreduce_test

import (
	"runtime"
	"slices"
	"testing"
	"time"

	m "mapreduce/mapreduce"
)

// ending is a job that ends for a reason, with the most workers.
type ending struct {
	job    int
	input  string
	c      m.Config
	events []m.Event
	reason error
}

func endings() []ending {
	c := m.Config{Maps: 2, Reduces: 2, Workers: 8, Attempts: 1, Backups: 0, Lease: 1, Capacity: 999}
	tight, wrong := c, c
	tight.Capacity = 0
	wrong.Lease = 0
	return []ending{
		{1, "a b", wrong, nil, m.ErrArg},
		{3, "a b", c, nil, m.ErrInput},
		{1, "a b", c, nil, m.ErrEnded},
		{1, "a b", c, inTurn(8, 20), m.ErrEnded},
		{1, "a b", c, slices.Concat(stall(3, 9), inTurn(8, 20), crash(2)), m.ErrEnded},
		{1, "a b", tight, inTurn(8, 999), m.ErrFull},
		{1, "a b", c, slices.Concat(inTurn(8, 16), ticks(9)), m.ErrExhausted},
		{1, "a b", c, inTurn(8, 999), nil},
	}
}

func (e ending) run(t *testing.T) {
	t.Helper()
	_, err := m.Run(e.job, "", e.input, e.c, telling(e.events, new(int)))
	if reason, _ := err.(*m.Fault); reason != nil {
		err = reason.Err
	}
	if err != e.reason {
		t.Errorf("P12: %+v: %s, want %s", e.c, why(err), why(e.reason))
	}
}

// fallTo waits till there are no more goroutines than that; one that has told its end may take a moment to be gone.
func fallTo(n int) bool {
	for range 500 {
		if runtime.NumGoroutine() <= n {
			return true
		}
		time.Sleep(time.Millisecond)
	}
	return false
}

// settled tells how many goroutines there are when those of tests before are gone.
func settled() int {
	fallTo(2) // the test's own, and that which started it
	return runtime.NumGoroutine()
}

// TestNoGoroutineIsLeft: however a job ends (P2). That Run waits for them is told by how seldom one is yet to be gone: where one goroutine runs at a time, hardly ever.
func TestNoGoroutineIsLeft(t *testing.T) {
	defer runtime.GOMAXPROCS(runtime.GOMAXPROCS(1))
	was := settled()
	for _, e := range endings() {
		left := 0
		for range 300 {
			e.run(t)
			if runtime.NumGoroutine() > was {
				left++
			}
		}
		if left > 200 {
			t.Errorf("P2: %s: behind %d of 300 jobs goroutines were left", why(e.reason), left)
		}
		if !fallTo(was) {
			t.Fatalf("P2: %s: %d goroutines, %d before", why(e.reason), runtime.NumGoroutine(), was)
		}
	}
}

// TestAGoroutineForEachWorker: from the first event to the last, crashes or not.
func TestAGoroutineForEachWorker(t *testing.T) {
	for workers := 1; workers <= 8; workers++ {
		c := small()
		c.Workers = workers
		was := settled()
		next := telling(slices.Concat(inTurn(workers, 20), crash(0), stall(0, 3), ticks(1)), new(int))
		m.Run(1, "", "a b", c, func() (m.Event, bool) {
			if n := runtime.NumGoroutine() - was; n != workers {
				t.Errorf("Ways: %d goroutines for %d workers", n, workers)
			}
			return next()
		})
	}
}

// TestJobsAtOnce: they know nothing of each other, and come to the same each time.
func TestJobsAtOnce(t *testing.T) {
	c := m.Config{Maps: 3, Reduces: 3, Workers: 4, Attempts: 5, Backups: 2, Lease: 3, Capacity: 9999}
	events := slices.Concat(inTurn(4, 7), ticks(2), stall(1, 3), inTurn(4, 9), crash(2), ticks(3), inTurn(4, 99))
	input := "a b\nc d\ne a\nb"
	want, reason, asked := expectRun(2, "", input, c, events)
	atOnce(300, func(int, int) {
		checkRun(t, 2, "", input, c, events, want, reason, asked)
	})
}

// TestAJobWithinAJob: next may itself ask for all that there is.
func TestAJobWithinAJob(t *testing.T) {
	c := lone()
	inner, _, _ := expectRun(1, "", "a", c, steps(0, 99))
	next := telling(steps(0, 99), new(int))
	got, err := m.Run(1, "", "b b", c, func() (m.Event, bool) {
		checkRun(t, 1, "", "a", c, steps(0, 99), inner, "ok", 10)
		return next()
	})
	if got.Output != "b\t2\n" || err != nil {
		t.Errorf("P12: %+v, %s", got, why(err))
	}
}
