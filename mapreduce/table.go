package mapreduce

import (
	"math"
	"slices"
)

const (
	mostMaps     = 16
	mostWorkers  = 8
	mostAttempts = 10
	mostBackups  = 3
	mostLease    = 100
	mostLate     = 1_000_000
	mostCapacity = 1 << 20
)

const (
	mapPhase = iota + 1
	reducePhase
	donePhase
)

func within(n, least, most int) bool { return n >= least && n <= most }

func mayBe(c Config) bool {
	return within(c.Maps, 1, mostMaps) &&
		within(c.Reduces, 1, mostReduces) &&
		within(c.Workers, 1, mostWorkers) &&
		within(c.Attempts, 1, mostAttempts) &&
		within(c.Backups, 0, mostBackups) &&
		within(c.Lease, 1, mostLease) &&
		within(c.Late, 0, mostLate) &&
		within(c.Capacity, 0, mostCapacity)
}

// attempt is one that counts: of one that does not, its number tells all.
type attempt struct {
	id      int
	far     int
	granted int // the time of its grant
	heard   int // the time when it was last heard of
}

func (a attempt) estimate(now int) int {
	return (100 - a.far) * (now - a.granted) / max(a.far, 1)
}

type task struct {
	done    bool
	granted int // how many attempts there ever were
	live    []attempt
}

func (t task) idle() bool { return !t.done && len(t.live) == 0 }

// estimate is for a task at which an attempt counts.
func (t task) estimate(now int) int {
	least := math.MaxInt
	for _, a := range t.live {
		least = min(least, a.estimate(now))
	}
	return least
}

// book is what a table keeps, without its lock. Attempts count only at tasks of the phase, so the tasks of another phase are not in it.
type book struct {
	rules  Config
	phase  int
	tasks  []task
	grants int
	now    int
	failed bool
}

func newBook(c Config) book {
	return book{rules: c, phase: mapPhase, tasks: make([]task, c.Maps)}
}

func (b *book) request() (Grant, error) {
	if b.failed {
		return Grant{}, ErrExhausted
	}
	if b.phase == donePhase {
		return Grant{}, ErrDone
	}
	if n := slices.IndexFunc(b.tasks, task.idle); n >= 0 {
		return b.grant(n, false), nil
	}
	if n, ok := b.slowest(); ok {
		return b.grant(n, true), nil
	}
	return Grant{}, ErrWait
}

func (b *book) grant(n int, backup bool) Grant {
	b.grants++
	t := &b.tasks[n]
	t.granted++
	t.live = append(t.live, attempt{id: b.grants, granted: b.now, heard: b.now})
	return Grant{ID: b.grants, Task: n, Phase: b.phase, Backup: backup}
}

// slowest tells at which task a backup is due, if at any.
func (b *book) slowest() (int, bool) {
	found, most := -1, b.rules.Late
	for n, t := range b.tasks {
		if !b.mayBackUp(t) {
			continue
		}
		if e := t.estimate(b.now); e > most {
			found, most = n, e
		}
	}
	return found, found >= 0
}

func (b *book) mayBackUp(t task) bool {
	return !t.done && len(t.live) <= b.rules.Backups && t.granted < b.rules.Attempts
}

// find tells the task of an attempt that counts, and where it stands there.
func (b *book) find(id int) (*task, int, error) {
	if !within(id, 1, b.grants) {
		return nil, 0, ErrUnknown
	}
	for n := range b.tasks {
		t := &b.tasks[n]
		i := slices.IndexFunc(t.live, func(a attempt) bool { return a.id == id })
		if i >= 0 {
			return t, i, nil
		}
	}
	return nil, 0, ErrStale
}

func (b *book) heartbeat(id, far int) error {
	t, i, err := b.find(id)
	if err != nil {
		return err
	}
	if !within(far, 0, 100) {
		return ErrArg
	}
	a := &t.live[i]
	a.heard = b.now
	a.far = max(a.far, far)
	return nil
}

func (b *book) commit(id int) error {
	t, _, err := b.find(id)
	if err != nil {
		return err
	}
	t.done = true
	t.live = nil
	b.endPhase()
	return nil
}

func (b *book) endPhase() {
	if slices.ContainsFunc(b.tasks, func(t task) bool { return !t.done }) {
		return
	}
	if b.phase == mapPhase {
		b.phase = reducePhase
		b.tasks = make([]task, b.rules.Reduces)
	} else {
		b.phase = donePhase
		b.tasks = nil
	}
}

func (b *book) fail(id int) error {
	t, _, err := b.find(id)
	if err != nil {
		return err
	}
	b.drop(t, func(a attempt) bool { return a.id == id })
	return nil
}

func (b *book) tick() {
	b.now++
	for n := range b.tasks {
		b.drop(&b.tasks[n], func(a attempt) bool { return b.now-a.heard > b.rules.Lease })
	}
}

// drop lets the table fail only where it has dropped something: a task that is done has nothing left either, however often it was tried.
func (b *book) drop(t *task, gone func(attempt) bool) {
	before := len(t.live)
	t.live = slices.DeleteFunc(t.live, gone)
	if before > 0 && len(t.live) == 0 && t.granted >= b.rules.Attempts {
		b.failed = true
	}
}

func (b *book) liveIDs() []int {
	var ids []int
	for _, t := range b.tasks {
		for _, a := range t.live {
			ids = append(ids, a.id)
		}
	}
	slices.Sort(ids) // a task's backup may be later than the next task's attempts
	return ids
}

func (b *book) status() Status {
	s := Status{Phase: b.phase, Now: b.now, Failed: b.failed}
	for _, t := range b.tasks {
		switch {
		case t.done:
			s.Done++
		case t.idle():
			s.Idle++
		default:
			s.Running++
		}
		s.Live += len(t.live)
	}
	s.Backups = s.Live - s.Running
	return s
}
