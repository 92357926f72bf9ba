package mapreduce_test

import (
	"math"
	"slices"
	"strings"
	"testing"

	m "mapreduce/mapreduce"
	"mapreduce/plain"
)

func steps(worker, n int) []m.Event {
	return slices.Repeat([]m.Event{{Kind: 1, Worker: worker}}, n)
}

func ticks(n int) []m.Event { return slices.Repeat([]m.Event{{Kind: 2}}, n) }

func crash(worker int) []m.Event { return []m.Event{{Kind: 3, Worker: worker}} }

func stall(worker, n int) []m.Event { return []m.Event{{Kind: 4, Worker: worker, N: n}} }

// inTurn are steps of workers, one after the other, n in all.
func inTurn(workers, n int) []m.Event {
	var events []m.Event
	for k := range n {
		events = append(events, steps(k%workers, 1)...)
	}
	return events
}

// telling is a next that tells events one by one, and counts how often it is asked.
func telling(events []m.Event, asked *int) func() (m.Event, bool) {
	return func() (m.Event, bool) {
		*asked++
		if *asked > len(events) {
			return m.Event{Kind: 1}, false // not an event, whatever stands there
		}
		return events[*asked-1], true
	}
}

func checkRun(t *testing.T, job int, arg, input string, c m.Config, events []m.Event, want m.Report, reason string, asked int) bool {
	t.Helper()
	n := 0
	got, err := m.Run(job, arg, input, c, telling(events, &n))
	if got == want && why(err) == reason && n == asked {
		return true
	}
	t.Errorf("P12: Run(%d, %q, %.200q, %+v) over %v: got %+v, %s, asked %d times, want %+v, %s, asked %d times", job, arg, input, c, events, got, why(err), n, want, reason, asked)
	return false
}

// trial is a job over one short input, asked over several lists of events.
type trial struct {
	*testing.T
	c     m.Config
	input string
}

// ends: all events are told, and the job goes on.
func (r trial) ends(events []m.Event, grants, backups, commits, peak int) {
	r.Helper()
	want := m.Report{Events: len(events), Grants: grants, Backups: backups, Commits: commits, Peak: peak}
	checkRun(r.T, 1, "", r.input, r.c, events, want, why(m.ErrEnded), len(events)+1)
}

// stops: the job is over at the last event, for that reason; more events are not asked for.
func (r trial) stops(events []m.Event, reason error, grants, backups, commits, peak int) {
	r.Helper()
	want := m.Report{Events: len(events), Grants: grants, Backups: backups, Commits: commits, Peak: peak}
	if reason == nil {
		want.Output, _ = expectLocal(1, "", r.input, r.c.Reduces)
	}
	more := slices.Concat(events, steps(0, 3), ticks(300))
	checkRun(r.T, 1, "", r.input, r.c, more, want, why(reason), len(events))
}

// lone is a config of one task in each phase.
func lone() m.Config {
	return m.Config{Maps: 1, Reduces: 1, Workers: 2, Attempts: 3, Lease: 3, Late: 0, Capacity: 999}
}

func TestExample11(t *testing.T) {
	c := m.Config{Maps: 1, Reduces: 1, Workers: 1, Attempts: 1, Backups: 0, Lease: 9, Late: 0, Capacity: 999}
	want := m.Report{Output: "x\t1\n", Events: 10, Grants: 2, Backups: 0, Commits: 2, Peak: 18}
	checkRun(t, 1, "", "x", c, steps(0, 99), want, "ok", 10)
	if got, n, at, asked := plain.Run(1, "", "x", c, steps(0, 99)); got != want || n != 0 || at != -1 || asked != 10 {
		t.Errorf("P12: plain.Run = %+v, %d, %d, %d", got, n, at, asked)
	}
	if got, n := plain.Steps(1, "", "x", c, 1, 99); got != want || n != 0 {
		t.Errorf("P12: plain.Steps = %+v, %d", got, n)
	}
	if got, n := plain.Steps(1, "", "x", c, 1, 4); got != (m.Report{Events: 4, Grants: 1, Peak: 14}) || n != 11 {
		t.Errorf("P12: plain.Steps of four = %+v, %d", got, n)
	}
	if got, n, at, asked := plain.Run(3, "", "x 1\nx", c, steps(0, 99)); got != (m.Report{}) || n != 4 || at != 1 || asked != 0 {
		t.Errorf("P12: plain.Run of a wrong line = %+v, %d, %d, %d", got, n, at, asked)
	}
}

// TestRunRefuses: nothing is asked of next, and the report is empty.
func TestRunRefuses(t *testing.T) {
	over := strings.Repeat("a", 65537)
	refused, none := why(m.ErrArg), m.Report{}
	for _, f := range configFields() {
		for _, n := range f.refused() {
			checkRun(t, 1, "", "x", f.in(n), steps(0, 99), none, refused, 0)
			checkRun(t, 3, "", "x", f.in(n), steps(0, 99), none, refused, 0) // the line is wrong too
		}
	}
	for _, job := range []int{math.MinInt, -1, 0, 6, math.MaxInt} {
		checkRun(t, job, "", "x", small(), steps(0, 99), none, refused, 0)
	}
	for job := 1; job <= 5; job++ {
		checkRun(t, job, over, "x", small(), steps(0, 99), none, refused, 0)
		checkRun(t, job, "", over, small(), steps(0, 99), none, refused, 0)
	}
	for at := range 5 {
		input := strings.Repeat("k 1\n", at) + "k\nk 1\nk"
		checkRun(t, 3, "", input, small(), steps(0, 99), none, whyAt(m.ErrInput, at), 0)
	}
}

func TestRunTakesEachConfigThatMayBe(t *testing.T) {
	for _, f := range configFields() {
		for _, n := range f.taken() {
			c := f.in(n)
			tasks := c.Maps + c.Reduces
			checkRun(t, 1, "", "", c, steps(0, 999), m.Report{Events: 5 * tasks, Grants: tasks, Commits: tasks}, "ok", 5*tasks)
		}
	}
}

func TestRunWithoutEvents(t *testing.T) {
	checkRun(t, 1, "", "x", small(), nil, m.Report{}, why(m.ErrEnded), 1)
	if got, err := m.Run(1, "", "x", small(), nil); got != (m.Report{}) || why(err) != why(m.ErrEnded) {
		t.Errorf("P1: Run without a next = %+v, %s", got, why(err))
	}
	if got, err := m.Run(9, "", "x", small(), nil); got != (m.Report{}) || why(err) != why(m.ErrArg) {
		t.Errorf("P1: Run of no job without a next = %+v, %s", got, why(err))
	}
}

// TestEachStep: one grant, then an attempt's four, for each of the two tasks.
func TestEachStep(t *testing.T) {
	r := trial{t, lone(), "a a"}
	for n, want := range [][3]int{{0, 0, 0}, {1, 0, 0}, {1, 0, 28}, {1, 0, 28}, {1, 0, 28}, {1, 1, 28}, {2, 1, 28}, {2, 1, 32}, {2, 1, 32}, {2, 1, 32}} {
		r.ends(steps(0, n), want[0], 0, want[1], want[2])
	}
	r.stops(steps(0, 10), nil, 2, 0, 2, 32)
}

// TestHowFarAStepIs: told by the estimates, and so by whether a backup is granted. (After 100 ticks one hundredth less far is another estimate.)
func TestHowFarAStepIs(t *testing.T) {
	c := m.Config{Maps: 1, Reduces: 1, Workers: 2, Attempts: 9, Backups: 1, Lease: 100, Capacity: 999}
	for _, x := range []struct{ steps, estimate int }{{1, 10_000}, {2, 10_000}, {3, 100}, {4, 0}} {
		r := trial{t, c, ""}
		events := slices.Concat(steps(0, x.steps), ticks(100), steps(1, 1))
		r.c.Late = x.estimate
		r.ends(events, 1, 0, 0, 0)
		if x.estimate > 0 {
			r.c.Late = x.estimate - 1
			r.ends(events, 2, 1, 0, 0)
		}
	}
}

// TestEachStepIsHeardOf: the attempt is dropped Lease and one ticks behind the last of them.
func TestEachStepIsHeardOf(t *testing.T) {
	r := trial{t, m.Config{Maps: 1, Reduces: 1, Workers: 1, Attempts: 1, Lease: 2, Capacity: 999}, "a"}
	events := steps(0, 1)
	for n := range 4 {
		peak := 14 * min(n, 1)
		r.ends(slices.Concat(events, ticks(2)), 1, 0, 0, peak)
		r.stops(slices.Concat(events, ticks(3)), m.ErrExhausted, 1, 0, 0, peak)
		events = slices.Concat(events, ticks(2), steps(0, 1))
	}
}

func TestALetGoReason(t *testing.T) {
	r := trial{t, lone(), "a"}
	r.ends(slices.Concat(steps(0, 1), steps(1, 50)), 1, 0, 0, 0)
	r.stops(slices.Concat(steps(0, 1), steps(1, 50), steps(0, 4), steps(1, 5)), nil, 2, 0, 2, 18)
}

// TestTheTasksOfLines: task t's lines, told by the bytes that it stages, of lines of 1, 10, 100 and so on words.
func TestTheTasksOfLines(t *testing.T) {
	for _, x := range []struct {
		maps, lines int
		words       []int
	}{
		{1, 4, []int{1111}},
		{2, 4, []int{11, 1100}},
		{2, 3, []int{1, 110}},
		{3, 4, []int{1, 10, 1100}},
		{3, 2, []int{0, 1, 10}},
		{4, 3, []int{0, 1, 10, 100}},
		{4, 1, []int{0, 0, 0, 1}},
		{5, 0, []int{0, 0, 0, 0, 0}},
		{3, 5, []int{1, 110, 11000}},
	} {
		input, often := "", 1
		for range x.lines {
			input += strings.Repeat("w ", often) + "\n"
			often *= 10
		}
		r := trial{t, m.Config{Maps: x.maps, Reduces: 1, Workers: 1, Attempts: 1, Lease: 1, Capacity: 1 << 20}, input}
		peak := 0
		for task, words := range x.words {
			peak += 14 * words
			r.ends(steps(0, 5*task+2), task+1, 0, task, peak)
		}
	}
}

// TestLinesKeepTheirNumbers: those of the whole input, not of their task.
func TestLinesKeepTheirNumbers(t *testing.T) {
	c := m.Config{Maps: 3, Reduces: 1, Workers: 1, Attempts: 1, Lease: 1, Capacity: 9999}
	for job, output := range map[int]string{
		2: "a\t0,1,3,6\nb\t1,2,4,6\nc\t5\n",
		5: "000000\ta\n000001\tb a\n000003\ta\n000006\ta b\n",
	} {
		got, err := m.Run(job, "a", "a\nb a\nb\na\nb\nc\na b", c, telling(steps(0, 99), new(int)))
		if got.Output != output || err != nil {
			t.Errorf("P12: job %d: %q, %s, want %q", job, got.Output, why(err), output)
		}
	}
}

func TestAStall(t *testing.T) {
	for _, x := range []struct{ n, stalls int }{{0, 0}, {-1, 0}, {math.MinInt, 0}, {1, 1}, {7, 7}, {999, 999}, {1000, 1000}, {1001, 1000}, {math.MaxInt, 1000}} {
		r := trial{t, lone(), "a"}
		events := slices.Concat(stall(0, x.n), steps(0, x.stalls))
		r.ends(events, 0, 0, 0, 0)
		r.ends(slices.Concat(events, steps(0, 1)), 1, 0, 0, 0)
		events = slices.Concat(steps(0, 1), stall(0, x.n), steps(0, x.stalls))
		r.ends(events, 1, 0, 0, 0)
		r.ends(slices.Concat(events, steps(0, 1)), 1, 0, 0, 14)
	}
}

// TestStallsAreNotAddedUp: the last one holds; others' steps, ticks and stalls take nothing from it.
func TestStallsAreNotAddedUp(t *testing.T) {
	r := trial{t, lone(), "a"}
	for _, events := range [][]m.Event{
		slices.Concat(stall(0, 5), stall(0, 2), steps(0, 2)),
		slices.Concat(stall(0, 2), stall(0, 5), steps(0, 5)),
		slices.Concat(stall(0, 5), steps(0, 3), stall(0, 4), steps(0, 4)),
		slices.Concat(stall(0, 5), stall(0, 0)),
		slices.Concat(stall(0, 5), stall(0, -3)),
		slices.Concat(stall(0, 2), ticks(9), stall(1, 7), steps(1, 3), crash(1), steps(0, 2)),
	} {
		r.ends(events, 0, 0, 0, 0)
		r.ends(slices.Concat(events, steps(0, 1)), 1, 0, 0, 0)
	}
}

// TestAStalledWorkerKeepsItsAttempt: and is not heard of meanwhile.
func TestAStalledWorkerKeepsItsAttempt(t *testing.T) {
	r := trial{t, lone(), "a"}
	r.stops(slices.Concat(steps(0, 3), stall(0, 2), steps(0, 2), steps(0, 7)), nil, 2, 0, 2, 18)
	events := slices.Concat(steps(0, 2), stall(0, 9), ticks(1), steps(0, 1), ticks(1), steps(0, 1), ticks(1), steps(1, 1))
	r.ends(events, 1, 0, 0, 14)
	r.ends(slices.Concat(events, ticks(1), steps(1, 1)), 2, 0, 0, 14)
}

// TestACrash: the worker works at nothing and does not stall; its attempt counts on, and what it has staged lies there, till it is dropped.
func TestACrash(t *testing.T) {
	r := trial{t, lone(), "a"}
	r.ends(slices.Concat(stall(0, 9), crash(0), steps(0, 1)), 1, 0, 0, 0)
	r.ends(slices.Concat(steps(0, 1), stall(0, 9), crash(0), ticks(4), steps(0, 2)), 2, 0, 0, 14)
	for n := 1; n <= 4; n++ {
		events := slices.Concat(steps(0, n), crash(0), ticks(3), steps(0, 5))
		r.ends(events, 1, 0, 0, 14*min(n-1, 1))
		r.stops(slices.Concat(events, ticks(1), steps(0, 10)), nil, 3, 0, 2, 18)
	}
	r.ends(slices.Concat(crash(0), crash(1)), 0, 0, 0, 0)
}

// TestACrashBeginsAnew: the next attempt has all four steps ahead.
func TestACrashBeginsAnew(t *testing.T) {
	c := lone()
	c.Maps = 2
	r := trial{t, c, "a\na"}
	for n := 1; n <= 4; n++ {
		events := slices.Concat(steps(0, n), crash(0), steps(0, 1))
		first := 14 * min(n-1, 1)
		r.ends(slices.Concat(events, steps(0, 1)), 2, 0, 0, first+14)
		r.ends(slices.Concat(events, steps(0, 3)), 2, 0, 0, first+14)
		r.ends(slices.Concat(events, steps(0, 4)), 2, 0, 1, first+14)
	}
}

// backed is a config in which worker 1 backs up what worker 0 does, when the time has gone on.
func backed() m.Config {
	c := lone()
	c.Backups, c.Lease = 1, 9
	return c
}

// TestABackup: whichever commits first, the other works at nothing when it hears of it, and its staged things are gone at once.
func TestABackup(t *testing.T) {
	r := trial{t, backed(), "a"}
	both := slices.Concat(steps(0, 2), ticks(1), steps(1, 2))
	r.ends(both, 2, 1, 0, 28)
	r.ends(slices.Concat(both, steps(1, 3)), 2, 1, 1, 28)
	r.ends(slices.Concat(both, steps(1, 3), steps(0, 1)), 2, 1, 1, 28)
	r.ends(slices.Concat(both, steps(1, 3), steps(0, 2)), 3, 1, 1, 28)
	r.stops(slices.Concat(both, steps(1, 3), steps(0, 6)), nil, 3, 1, 2, 28)
	r.ends(slices.Concat(both, steps(0, 3), steps(1, 1)), 2, 1, 1, 28)
	r.stops(slices.Concat(both, steps(0, 3), steps(1, 6)), nil, 3, 1, 2, 28)
}

// TestStaleAtEachStep: a step that hears it does nothing else, neither the work nor a request, and is no commit.
func TestStaleAtEachStep(t *testing.T) {
	for n := 1; n <= 4; n++ {
		r := trial{t, backed(), "a"}
		peak := 14 + 14*min(n-1, 1)
		events := slices.Concat(steps(0, n), ticks(1), steps(1, 1))
		if n == 4 { // what is 100 far is not backed up
			events = slices.Concat(steps(0, 1), ticks(1), steps(1, 1), steps(0, 3))
		}
		events = slices.Concat(events, steps(1, 4))
		r.ends(events, 2, 1, 1, peak)
		r.ends(slices.Concat(events, steps(0, 1)), 2, 1, 1, peak)
		r.ends(slices.Concat(events, steps(0, 2)), 3, 1, 1, peak)
		r.stops(slices.Concat(events, steps(0, 6)), nil, 3, 1, 2, max(peak, 18))
	}
}

// TestTheRoomOfDroppedAttempts: what they have staged is gone at the very tick, so that the next attempt has room.
func TestTheRoomOfDroppedAttempts(t *testing.T) {
	r := trial{t, lone(), "a"}
	r.c.Capacity = 18
	r.stops(slices.Concat(steps(0, 2), ticks(4), steps(1, 10)), nil, 3, 0, 2, 18)
	r.stops(slices.Concat(steps(0, 2), ticks(4), steps(1, 2), ticks(4), steps(0, 11)), nil, 4, 0, 2, 18)
	r.c.Backups = 1
	r.stops(slices.Concat(steps(0, 2), ticks(1), steps(1, 2)), m.ErrFull, 2, 1, 0, 14)
	r.stops(slices.Concat(steps(0, 1), ticks(1), steps(1, 2), steps(1, 3), steps(0, 1), steps(0, 5)), nil, 3, 1, 2, 18)
}

func TestFull(t *testing.T) {
	r := trial{t, lone(), "a"}
	for capacity := range 20 {
		r.c.Capacity = capacity
		switch {
		case capacity < 14:
			r.stops(steps(0, 2), m.ErrFull, 1, 0, 0, 0)
		case capacity < 18:
			r.stops(steps(0, 7), m.ErrFull, 2, 0, 1, 14)
		default:
			r.stops(steps(0, 10), nil, 2, 0, 2, 18)
		}
	}
}

// TestFullAmongParts: those ahead of the part for which there is no room are there.
func TestFullAmongParts(t *testing.T) {
	words := make([]string, 3) // one of each part
	for _, w := range strings.Split("abcdefg", "") {
		words[expectPart(w, 3)] = w
	}
	if slices.Contains(words, "") {
		t.Fatalf("%q: a part is without a word", words)
	}
	r := trial{t, lone(), strings.Join(words, " ")}
	r.c.Reduces = 3
	for room, there := range []int{0, 14, 28} {
		r.c.Capacity = 14*(room+1) - 1
		r.stops(steps(0, 2), m.ErrFull, 1, 0, 0, there)
	}
	r.c.Capacity = 42
	r.stops(steps(0, 7), m.ErrFull, 2, 0, 1, 42)
	r.c.Capacity = 54
	r.stops(steps(0, 20), nil, 4, 0, 4, 54)
}

func TestExhausted(t *testing.T) {
	r := trial{t, lone(), "a"}
	events := []m.Event{}
	for n := 1; n <= 3; n++ {
		events = slices.Concat(events, steps(0, 2), ticks(4), steps(0, 1))
		if n < 3 {
			r.ends(events, n, 0, 0, 14)
		} else {
			r.stops(events[:len(events)-1], m.ErrExhausted, 3, 0, 0, 14)
		}
	}
	r.stops(slices.Concat(steps(0, 5), steps(1, 1), ticks(4), steps(1, 2), ticks(4), steps(0, 2), ticks(4)), m.ErrExhausted, 4, 0, 1, 18)
}

// TestEventsOfWhichNothingIsSaid: they are told, and counted, and that is all.
func TestEventsOfWhichNothingIsSaid(t *testing.T) {
	r := trial{t, lone(), "a"}
	for _, kind := range []int{math.MinInt, -1, 0, 5, 6, 1 << 32, 1<<32 + 1, math.MaxInt} {
		r.ends(slices.Concat(steps(0, 2), []m.Event{{Kind: kind}, {Kind: kind, N: 5}}, steps(0, 3)), 1, 0, 1, 14)
	}
	for _, worker := range []int{math.MinInt, -2, -1, 2, 3, 8, 1 << 32, math.MaxInt} {
		r.ends(slices.Concat(steps(worker, 9), stall(worker, 9), crash(worker)), 0, 0, 0, 0)
		r.ends(slices.Concat(steps(0, 2), steps(worker, 1), stall(worker, 9), crash(worker), steps(0, 3)), 1, 0, 1, 14)
	}
	r.stops(slices.Concat(steps(0, 5), crash(2), steps(1, 5)), nil, 2, 0, 2, 18)
}

// TestATickIsNobodys: whatever worker and number are told with it.
func TestATickIsNobodys(t *testing.T) {
	r := trial{t, lone(), "a"}
	for _, worker := range []int{math.MinInt, -1, 0, 1, 2, math.MaxInt} {
		tick := m.Event{Kind: 2, Worker: worker, N: worker}
		r.ends(slices.Concat(steps(0, 1), slices.Repeat([]m.Event{tick}, 3), steps(1, 1)), 1, 0, 0, 0)
		r.ends(slices.Concat(steps(0, 1), slices.Repeat([]m.Event{tick}, 4), steps(1, 1)), 2, 0, 0, 0)
	}
}

// TestStepsAndCrashesHaveNoNumber: N is of stalls alone.
func TestStepsAndCrashesHaveNoNumber(t *testing.T) {
	r := trial{t, lone(), "a"}
	r.ends([]m.Event{{Kind: 1, N: 7}, {Kind: 1, N: -7}}, 1, 0, 0, 14)
	r.ends([]m.Event{{Kind: 3, N: 7}, {Kind: 1}}, 1, 0, 0, 0)
}

// TestRunComesToWhatLocalDoes: however the job is cut, and whoever works at it.
func TestRunComesToWhatLocalDoes(t *testing.T) {
	texts := map[int]string{3: "k 1\nj -5\nk 22\nl 0\nj 7\nk -9\nm 999999999999999999\nk 3"}
	for job := 1; job <= 5; job++ {
		input := "a b a\n\nc\tb\n a\nd e f g h\nb\na b\xff\nlast é"
		if text, ok := texts[job]; ok {
			input = text
		}
		for _, maps := range []int{1, 2, 3, 7, 16} {
			for _, reduces := range []int{1, 2, 3, 16} {
				for _, workers := range []int{1, 2, 8} {
					c := m.Config{Maps: maps, Reduces: reduces, Workers: workers, Attempts: 1, Lease: 1, Capacity: 9999}
					want, reason := expectLocal(job, "a", input, reduces)
					got, err := m.Run(job, "a", input, c, telling(inTurn(workers, 2000), new(int)))
					if got.Output != want || why(err) != reason || got.Grants != maps+reduces || got.Commits != maps+reduces || got.Backups != 0 {
						t.Errorf("P12: job %d, %+v: %+v, %s, want %q", job, c, got, why(err), want)
					}
				}
			}
		}
	}
}

func TestRunOfGreatInputs(t *testing.T) {
	c := m.Config{Maps: 16, Reduces: 16, Workers: 8, Attempts: 1, Lease: 1, Capacity: 1 << 20}
	most := strings.Repeat("a", 65536)
	for _, x := range []struct {
		job        int
		arg, input string
	}{
		{1, most, strings.Repeat("a b ", 16384)},
		{1, "", strings.Repeat("a\nb\n", 16384)},
		{2, "", strings.Repeat("w\n", 32768)},
		{3, "", strings.Repeat("k 1\nkk 22\n", 6553)},
		{4, "", strings.Repeat("\n", 65536)},
		{5, most, most},
		{5, "", strings.Repeat("x\n", 32768)},
	} {
		want, err := m.Local(x.job, x.arg, x.input, 16)
		if err != nil {
			t.Fatal(err)
		}
		got, err := m.Run(x.job, x.arg, x.input, c, telling(inTurn(8, 999), new(int)))
		if got.Output != want || err != nil {
			t.Errorf("P12: job %d of %d bytes: %d bytes, %s", x.job, len(x.input), len(got.Output), why(err))
		}
	}
}

// TestRunKeepsNothing: neither of a job that is over nor of one that is not.
func TestRunKeepsNothing(t *testing.T) {
	r := trial{t, lone(), "a"}
	for range 3 {
		r.ends(slices.Concat(stall(1, 9), steps(0, 3)), 1, 0, 0, 14)
		r.stops(steps(1, 10), nil, 2, 0, 2, 18)
	}
}
