package mapreduce_test

import (
	"fmt"
	"math"
	"slices"
	"testing"

	m "mapreduce/mapreduce"
	"mapreduce/plain"
)

// small is a config that may be, with room on all sides.
func small() m.Config {
	return m.Config{Maps: 2, Reduces: 1, Workers: 2, Attempts: 2, Backups: 1, Lease: 3, Late: 0, Capacity: 9999}
}

// bench is a table, and what was asked of it so far.
type bench struct {
	asker
	table *m.Table
}

func newBench(t *testing.T, c m.Config) *bench {
	t.Helper()
	table, err := m.NewTable(c)
	if table == nil || err != nil {
		t.Fatalf("P7: NewTable(%+v) = %v, %s", c, table, why(err))
	}
	return &bench{asker: asker{T: t}, table: table}
}

func (b *bench) grants(id, task, phase int, backup bool) {
	b.Helper()
	g, err := b.table.Request()
	b.expect("P8: Request", fmt.Sprint(g, why(err)), fmt.Sprint(m.Grant{ID: id, Task: task, Phase: phase, Backup: backup}, "ok"))
}

func (b *bench) grantsNone(reason error) {
	b.Helper()
	g, err := b.table.Request()
	b.expect("P8: Request", fmt.Sprint(g, why(err)), fmt.Sprint(m.Grant{}, why(reason)))
}

func (b *bench) beat(id, far int, reason error) {
	b.Helper()
	b.expect(fmt.Sprintf("P9: Heartbeat(%d, %d)", id, far), why(b.table.Heartbeat(id, far)), why(reason))
}

func (b *bench) commit(id int, reason error) {
	b.Helper()
	b.expect(fmt.Sprintf("P9: Commit(%d)", id), why(b.table.Commit(id)), why(reason))
}

func (b *bench) fail(id int, reason error) {
	b.Helper()
	b.expect(fmt.Sprintf("P9: Fail(%d)", id), why(b.table.Fail(id)), why(reason))
}

func (b *bench) ticks(n int) {
	for range n {
		b.table.Tick()
	}
	b.asked = append(b.asked, fmt.Sprint(n, " Ticks"))
}

func (b *bench) live(ids ...int) {
	b.Helper()
	b.expect("P10: Live", b.table.Live(), ids)
}

func (b *bench) status(want m.Status) {
	b.Helper()
	b.expect("P10: Status", fmt.Sprintf("%+v", b.table.Status()), fmt.Sprintf("%+v", want))
}

func TestExample8(t *testing.T) {
	b := newBench(t, small())
	b.grants(1, 0, 1, false)
	b.grants(2, 1, 1, false)
	b.grantsNone(m.ErrWait)
	b.ticks(1)
	b.grants(3, 0, 1, true)
	b.commit(3, nil)
	b.commit(1, m.ErrStale)
	b.commit(9, m.ErrUnknown)
}

func TestExample9(t *testing.T) {
	b := newBench(t, small())
	b.grants(1, 0, 1, false)
	b.grants(2, 1, 1, false)
	b.ticks(1)
	b.grants(3, 0, 1, true)
	b.commit(3, nil)
	b.ticks(2)
	b.live(2)
	b.ticks(1)
	b.live()
	b.grants(4, 1, 1, false)
}

func TestExamples8And9InPlainData(t *testing.T) {
	table, n := plain.NewTable(small())
	if n != 0 || table == nil {
		t.Fatalf("P7: plain.NewTable = %v, %d", table, n)
	}
	plain.Request(table)
	plain.Request(table)
	if g, n := plain.Request(table); g != (m.Grant{}) || n != 8 {
		t.Errorf("P8: plain.Request = %v, %d", g, n)
	}
	got := []int{plain.Heartbeat(table, 1, 101), plain.Heartbeat(table, 1, 100), plain.Fail(table, 1), plain.Fail(table, 1), plain.Commit(table, 1), plain.Commit(table, 3)}
	if !slices.Equal(got, []int{1, 0, 0, 7, 7, 6}) {
		t.Errorf("P9: in plain data: %v", got)
	}
	if table, n := plain.NewTable(m.Config{}); table != nil || n != 1 {
		t.Errorf("P7: plain.NewTable of nothing = %v, %d", table, n)
	}
}

// configField is one of a config's numbers, and what it may be.
type configField struct {
	name        string
	set         func(*m.Config, int)
	least, most int
}

func configFields() []configField {
	return []configField{
		{"Maps", func(c *m.Config, n int) { c.Maps = n }, 1, 16},
		{"Reduces", func(c *m.Config, n int) { c.Reduces = n }, 1, 16},
		{"Workers", func(c *m.Config, n int) { c.Workers = n }, 1, 8},
		{"Attempts", func(c *m.Config, n int) { c.Attempts = n }, 1, 10},
		{"Backups", func(c *m.Config, n int) { c.Backups = n }, 0, 3},
		{"Lease", func(c *m.Config, n int) { c.Lease = n }, 1, 100},
		{"Late", func(c *m.Config, n int) { c.Late = n }, 0, 1_000_000},
		{"Capacity", func(c *m.Config, n int) { c.Capacity = n }, 0, 1 << 20},
	}
}

func (f configField) taken() []int { return []int{f.least, f.most} }

func (f configField) refused() []int { return []int{math.MinInt, f.least - 1, f.most + 1, math.MaxInt} }

// in is a small config, with this number in it.
func (f configField) in(n int) m.Config {
	c := small()
	f.set(&c, n)
	return c
}

func TestWhatAConfigMayBe(t *testing.T) {
	for _, f := range configFields() {
		for _, n := range f.taken() {
			if table, err := m.NewTable(f.in(n)); table == nil || err != nil {
				t.Errorf("P7: %s %d: %s", f.name, n, why(err))
			}
		}
		for _, n := range f.refused() {
			if table, err := m.NewTable(f.in(n)); table != nil || why(err) != why(m.ErrArg) {
				t.Errorf("P7: %s %d: %v, %s", f.name, n, table, why(err))
			}
		}
	}
}

func TestNewTable(t *testing.T) {
	c := small()
	c.Maps = 5
	b := newBench(t, c)
	b.live()
	b.status(m.Status{Phase: 1, Idle: 5})
	b.commit(1, m.ErrUnknown)
}

// TestPhases: each phase's tasks are numbered from 0 on, and nothing of the next is granted before all are done.
func TestPhases(t *testing.T) {
	c := m.Config{Maps: 2, Reduces: 3, Workers: 1, Attempts: 1, Lease: 9}
	b := newBench(t, c)
	b.grants(1, 0, 1, false)
	b.status(m.Status{Phase: 1, Idle: 1, Running: 1, Live: 1})
	b.grants(2, 1, 1, false)
	b.grantsNone(m.ErrWait)
	b.commit(2, nil)
	b.status(m.Status{Phase: 1, Running: 1, Done: 1, Live: 1})
	b.grantsNone(m.ErrWait)
	b.commit(1, nil)
	b.status(m.Status{Phase: 2, Idle: 3})
	for p := range 3 {
		b.grants(3+p, p, 2, false)
	}
	b.ticks(1)
	b.commit(3, nil)
	b.commit(5, nil)
	b.status(m.Status{Phase: 2, Running: 1, Done: 2, Live: 1, Now: 1})
	b.grantsNone(m.ErrWait)
	b.commit(4, nil)
	b.status(m.Status{Phase: 3, Now: 1})
	b.grantsNone(m.ErrDone)
	b.live()
	for id := 1; id <= 5; id++ {
		b.beat(id, 0, m.ErrStale)
		b.commit(id, m.ErrStale)
		b.fail(id, m.ErrStale)
	}
	b.commit(6, m.ErrUnknown)
	b.ticks(200)
	b.status(m.Status{Phase: 3, Now: 201})
	b.grantsNone(m.ErrDone)
}

func TestTheFirstIdleTaskIsGranted(t *testing.T) {
	b := newBench(t, m.Config{Maps: 4, Reduces: 1, Workers: 1, Attempts: 9, Backups: 3, Lease: 100})
	for id := 1; id <= 3; id++ {
		b.grants(id, id-1, 1, false)
	}
	b.ticks(50)
	b.fail(3, nil)
	b.fail(2, nil)
	b.grants(4, 1, 1, false)
	b.grants(5, 2, 1, false)
	b.commit(1, nil)
	b.grants(6, 3, 1, false)
	b.live(4, 5, 6)
}

// TestABackupIsLate: its task's estimate is above Late, not at it, and is cut.
func TestABackupIsLate(t *testing.T) {
	for _, x := range []struct{ late, far, ticks, estimate int }{
		{0, 0, 0, 0},
		{0, 0, 1, 100},
		{99, 0, 1, 100},
		{100, 0, 1, 100},
		{299, 0, 3, 300},
		{300, 0, 3, 300},
		{0, 1, 1, 99},
		{98, 1, 1, 99},
		{99, 1, 1, 99},
		{24, 20, 7, 28},
		{28, 20, 7, 28},
		{6, 30, 3, 7},
		{7, 30, 3, 7},
		{0, 51, 1, 0},
		{0, 50, 1, 1},
		{0, 99, 98, 0},
		{0, 99, 99, 1},
		{0, 100, 100, 0},
	} {
		b := newBench(t, m.Config{Maps: 1, Reduces: 1, Workers: 1, Attempts: 2, Backups: 1, Lease: 100, Late: x.late})
		b.grants(1, 0, 1, false)
		b.ticks(x.ticks)
		b.beat(1, x.far, nil)
		if x.estimate > x.late {
			b.grants(2, 0, 1, true)
		} else {
			b.grantsNone(m.ErrWait)
		}
	}
}

func TestTheMostLateTaskIsBackedUp(t *testing.T) {
	b := newBench(t, m.Config{Maps: 4, Reduces: 1, Workers: 1, Attempts: 9, Backups: 1, Lease: 100})
	for id := 1; id <= 4; id++ {
		b.grants(id, id-1, 1, false)
	}
	b.ticks(10)
	b.beat(1, 50, nil)
	b.beat(2, 20, nil)
	b.beat(3, 20, nil)
	b.beat(4, 90, nil)
	b.grants(5, 1, 1, true)
	b.grants(6, 2, 1, true)
	b.grants(7, 0, 1, true)
	b.grants(8, 3, 1, true)
	b.grantsNone(m.ErrWait)
}

// TestEstimatesCountFromTheGrant: not from when the attempt was heard of, nor from the time 0.
func TestEstimatesCountFromTheGrant(t *testing.T) {
	b := newBench(t, m.Config{Maps: 2, Reduces: 1, Workers: 1, Attempts: 2, Backups: 1, Lease: 100, Late: 399})
	b.ticks(7)
	b.grants(1, 0, 1, false)
	b.ticks(1)
	b.grants(2, 1, 1, false)
	b.ticks(2)
	b.beat(1, 0, nil)
	b.beat(2, 0, nil)
	b.grantsNone(m.ErrWait)
	b.ticks(1)
	b.grants(3, 0, 1, true)
	b.grantsNone(m.ErrWait)
	b.ticks(1)
	b.grants(4, 1, 1, true)
}

// TestATasksEstimateIsTheLeast: a backup that is ahead speaks for its task, and no longer when it is dropped.
func TestATasksEstimateIsTheLeast(t *testing.T) {
	b := newBench(t, m.Config{Maps: 1, Reduces: 1, Workers: 1, Attempts: 9, Backups: 2, Lease: 100, Late: 100})
	b.grants(1, 0, 1, false)
	b.ticks(2)
	b.grants(2, 0, 1, true)
	b.grantsNone(m.ErrWait)
	b.ticks(1)
	b.grantsNone(m.ErrWait)
	b.ticks(1)
	b.beat(2, 60, nil)
	b.grantsNone(m.ErrWait)
	b.fail(2, nil)
	b.grants(3, 0, 1, true)
	b.ticks(2)
	b.beat(1, 90, nil)
	b.grantsNone(m.ErrWait)
	b.fail(1, nil)
	b.grants(4, 0, 1, true)
}

func TestHowManyBackupsCount(t *testing.T) {
	for backups := range 4 {
		b := newBench(t, m.Config{Maps: 1, Reduces: 1, Workers: 1, Attempts: 10, Backups: backups, Lease: 100})
		b.grants(1, 0, 1, false)
		for k := range backups {
			b.ticks(1)
			b.grants(k+2, 0, 1, true)
			b.status(m.Status{Phase: 1, Running: 1, Live: k + 2, Backups: k + 1, Now: k + 1})
		}
		b.ticks(1)
		b.grantsNone(m.ErrWait)
		if backups > 0 { // one that is dropped makes room for another
			b.fail(1, nil)
			b.grants(backups+2, 0, 1, true)
		}
	}
}

func TestHowManyAttemptsAreGranted(t *testing.T) {
	for attempts := 1; attempts <= 3; attempts++ {
		b := newBench(t, m.Config{Maps: 1, Reduces: 1, Workers: 1, Attempts: attempts, Backups: 3, Lease: 100})
		b.grants(1, 0, 1, false)
		for k := 2; k <= attempts; k++ {
			b.ticks(1)
			b.grants(k, 0, 1, true)
		}
		b.ticks(1)
		b.grantsNone(m.ErrWait)
		if attempts > 1 { // dropped ones have been granted all the same
			b.fail(1, nil)
			b.grantsNone(m.ErrWait)
		}
	}
}

// TestTasksPassedOver: one that is done, one with all its attempts, and then the less late one is backed up.
func TestTasksPassedOver(t *testing.T) {
	b := newBench(t, m.Config{Maps: 3, Reduces: 1, Workers: 1, Attempts: 2, Backups: 1, Lease: 100})
	b.grants(1, 0, 1, false)
	b.grants(2, 1, 1, false)
	b.fail(2, nil)
	b.grants(3, 1, 1, false)
	b.ticks(1)
	b.grants(4, 2, 1, false)
	b.ticks(1)
	b.commit(1, nil)
	b.grants(5, 2, 1, true)
	b.grantsNone(m.ErrWait)
}

func TestBackupsOfTheSecondPhase(t *testing.T) {
	b := newBench(t, m.Config{Maps: 1, Reduces: 2, Workers: 1, Attempts: 2, Backups: 1, Lease: 100})
	b.grants(1, 0, 1, false)
	b.ticks(1)
	b.grants(2, 0, 1, true)
	b.commit(1, nil)
	b.live()
	b.grants(3, 0, 2, false)
	b.grants(4, 1, 2, false)
	b.grantsNone(m.ErrWait)
	b.ticks(1)
	b.beat(3, 1, nil)
	b.grants(5, 1, 2, true)
	b.grants(6, 0, 2, true)
	b.status(m.Status{Phase: 2, Running: 2, Live: 4, Backups: 2, Now: 2})
	b.live(3, 4, 5, 6)
	b.commit(6, nil)
	b.live(4, 5)
	b.beat(3, 1, m.ErrStale)
}

func TestAttemptsThatWereNotGranted(t *testing.T) {
	b := newBench(t, small())
	b.grants(1, 0, 1, false)
	for _, id := range []int{math.MinInt, -1, 0, 2, math.MaxInt} {
		for _, far := range []int{-1, 0, 101} {
			b.beat(id, far, m.ErrUnknown)
		}
		b.commit(id, m.ErrUnknown)
		b.fail(id, m.ErrUnknown)
	}
	b.live(1)
	b.status(m.Status{Phase: 1, Idle: 1, Running: 1, Live: 1})
}

func TestAttemptsThatDoNotCount(t *testing.T) {
	b := newBench(t, m.Config{Maps: 3, Reduces: 1, Workers: 1, Attempts: 3, Backups: 1, Lease: 2})
	b.grants(1, 0, 1, false)
	b.grants(2, 1, 1, false)
	b.fail(1, nil)
	b.commit(2, nil)
	b.grants(3, 0, 1, false)
	b.ticks(3)
	b.grants(4, 0, 1, false)
	for _, id := range []int{1, 2, 3} {
		for _, far := range []int{math.MinInt, -1, 0, 100, 101, math.MaxInt} {
			b.beat(id, far, m.ErrStale)
		}
		b.commit(id, m.ErrStale)
		b.fail(id, m.ErrStale)
	}
	b.live(4)
	b.status(m.Status{Phase: 1, Idle: 1, Running: 1, Done: 1, Live: 1, Now: 3})
}

func TestHowFarAnAttemptMayBe(t *testing.T) {
	b := newBench(t, m.Config{Maps: 1, Reduces: 1, Workers: 1, Attempts: 1, Lease: 1})
	b.grants(1, 0, 1, false)
	b.ticks(1)
	for _, far := range []int{math.MinInt, -1, 101, math.MaxInt} {
		b.beat(1, far, m.ErrArg)
	}
	b.live(1)
	b.ticks(1) // a heartbeat that was refused was not heard of
	b.live()
}

// TestAnAttemptGoesNotBack: a lesser far is heard of, but lets it stay as far as it was.
func TestAnAttemptGoesNotBack(t *testing.T) {
	b := newBench(t, m.Config{Maps: 1, Reduces: 1, Workers: 1, Attempts: 2, Backups: 1, Lease: 2, Late: 2})
	b.grants(1, 0, 1, false)
	b.beat(1, 50, nil)
	b.ticks(2)
	b.beat(1, 25, nil)
	b.grantsNone(m.ErrWait)
	b.beat(1, 0, nil)
	b.grantsNone(m.ErrWait)
	b.ticks(2)
	b.live(1)
	b.grants(2, 0, 1, true)
}

func TestLease(t *testing.T) {
	for _, lease := range []int{1, 2, 100} {
		b := newBench(t, m.Config{Maps: 2, Reduces: 1, Workers: 1, Attempts: 2, Lease: lease})
		b.ticks(3)
		b.grants(1, 0, 1, false)
		b.grants(2, 1, 1, false)
		b.ticks(lease)
		b.live(1, 2)
		b.beat(1, 0, nil)
		b.ticks(1)
		b.live(1)
		b.ticks(lease - 1)
		b.live(1)
		b.ticks(1)
		b.live()
		b.status(m.Status{Phase: 1, Idle: 2, Now: 2*lease + 4})
	}
}

// TestACommitIsNoDrop: the other attempts at the task count no more, and the table has not failed for that, nor later.
func TestACommitIsNoDrop(t *testing.T) {
	b := newBench(t, m.Config{Maps: 2, Reduces: 1, Workers: 1, Attempts: 2, Backups: 1, Lease: 2})
	b.grants(1, 0, 1, false)
	b.grants(2, 1, 1, false)
	b.ticks(1)
	b.grants(3, 0, 1, true)
	b.commit(1, nil)
	b.live(2)
	b.fail(3, m.ErrStale)
	b.beat(2, 0, nil)
	b.ticks(2)
	b.status(m.Status{Phase: 1, Running: 1, Done: 1, Live: 1, Now: 3})
	b.commit(2, nil)
	b.grants(4, 0, 2, false)
}

func TestTheTableFails(t *testing.T) {
	one := m.Config{Maps: 1, Reduces: 1, Workers: 1, Attempts: 1, Lease: 1}
	b := newBench(t, one)
	b.grants(1, 0, 1, false)
	b.fail(1, nil)
	b.grantsNone(m.ErrExhausted)
	b.status(m.Status{Phase: 1, Idle: 1, Failed: true})
	b = newBench(t, one)
	b.grants(1, 0, 1, false)
	b.ticks(2)
	b.grantsNone(m.ErrExhausted)
	b.status(m.Status{Phase: 1, Idle: 1, Now: 2, Failed: true})
	b = newBench(t, one)
	b.grants(1, 0, 1, false)
	b.commit(1, nil)
	b.grants(2, 0, 2, false)
	b.fail(2, nil)
	b.grantsNone(m.ErrExhausted)
	b.status(m.Status{Phase: 2, Idle: 1, Failed: true})
}

// TestTheLastAttemptFailsTheTable: not one beside which another counts, and not one ahead of the last grant.
func TestTheLastAttemptFailsTheTable(t *testing.T) {
	c := m.Config{Maps: 1, Reduces: 1, Workers: 1, Attempts: 3, Backups: 1, Lease: 2}
	b := newBench(t, c)
	b.grants(1, 0, 1, false)
	b.fail(1, nil)
	b.status(m.Status{Phase: 1, Idle: 1})
	b.grants(2, 0, 1, false)
	b.ticks(1)
	b.grants(3, 0, 1, true)
	b.fail(3, nil)
	b.status(m.Status{Phase: 1, Running: 1, Live: 1, Now: 1})
	b.grantsNone(m.ErrWait)
	b.ticks(2)
	b.status(m.Status{Phase: 1, Idle: 1, Now: 3, Failed: true})
	b.grantsNone(m.ErrExhausted)
}

func TestAttemptsDroppedAtOnce(t *testing.T) {
	b := newBench(t, m.Config{Maps: 1, Reduces: 1, Workers: 1, Attempts: 2, Backups: 1, Lease: 5})
	b.grants(1, 0, 1, false)
	b.ticks(1)
	b.grants(2, 0, 1, true)
	b.beat(1, 0, nil)
	b.ticks(5)
	b.live(1, 2)
	b.ticks(1)
	b.status(m.Status{Phase: 1, Idle: 1, Now: 7, Failed: true})
}

// TestAllElseGoesOn: in a table that has failed.
func TestAllElseGoesOn(t *testing.T) {
	b := newBench(t, m.Config{Maps: 3, Reduces: 1, Workers: 1, Attempts: 1, Backups: 0, Lease: 2})
	b.grants(1, 0, 1, false)
	b.grants(2, 1, 1, false)
	b.grants(3, 2, 1, false)
	b.fail(1, nil)
	b.status(m.Status{Phase: 1, Idle: 1, Running: 2, Live: 2, Failed: true})
	b.ticks(2)
	b.beat(2, 101, m.ErrArg)
	b.beat(2, 10, nil)
	b.beat(1, 10, m.ErrStale)
	b.beat(4, 10, m.ErrUnknown)
	b.ticks(1)
	b.live(2)
	b.commit(2, nil)
	b.commit(2, m.ErrStale)
	b.status(m.Status{Phase: 1, Idle: 2, Done: 1, Now: 3, Failed: true})
	for range 3 {
		b.grantsNone(m.ErrExhausted)
		b.ticks(1)
	}
	b.status(m.Status{Phase: 1, Idle: 2, Done: 1, Now: 6, Failed: true})
}

// TestLiveIsTheCallers: what is written into the list, or behind it, is not seen by the table (P2).
func TestLiveIsTheCallers(t *testing.T) {
	b := newBench(t, m.Config{Maps: 2, Reduces: 1, Workers: 1, Attempts: 5, Backups: 3, Lease: 100})
	b.grants(1, 0, 1, false)
	b.grants(2, 1, 1, false)
	b.ticks(1)
	b.grants(3, 0, 1, true)
	first, second := b.table.Live(), b.table.Live()
	if !slices.Equal(first, []int{1, 2, 3}) || !slices.Equal(second, first) {
		t.Fatalf("P10: Live = %v, then %v", first, second)
	}
	for i := range first[:cap(first)] {
		first[:cap(first)][i] = -7
	}
	if !slices.Equal(second, []int{1, 2, 3}) {
		t.Errorf("P2: two lists of Live share memory: %v", second)
	}
	b.live(1, 2, 3)
	b.grants(4, 1, 1, true)
	b.live(1, 2, 3, 4)
}

func TestTablesAreApart(t *testing.T) {
	a, b := newBench(t, small()), newBench(t, small())
	a.grants(1, 0, 1, false)
	a.ticks(1)
	b.status(m.Status{Phase: 1, Idle: 2})
	b.live()
	b.commit(1, m.ErrUnknown)
	b.grants(1, 0, 1, false)
	b.commit(1, nil)
	a.live(1)
	a.status(m.Status{Phase: 1, Idle: 1, Running: 1, Live: 1, Now: 1})
}
