package mapreduce_test

import (
	"fmt"
	"runtime"
	"slices"
	"sync"
	"sync/atomic"
	"testing"

	m "mapreduce/mapreduce"
)

// atOnce lets eight goroutines do the same in each round, as nearly at the same time as they can be brought to.
func atOnce(rounds int, do func(round, w int)) {
	var all sync.WaitGroup
	var arrived atomic.Int64
	for w := range 8 {
		all.Go(func() {
			for k := range rounds {
				arrived.Add(1)
				for arrived.Load() < int64(8*(k+1)) {
					runtime.Gosched()
				}
				do(k, w)
			}
		})
	}
	all.Wait()
}

func newTables(t *testing.T, n int, c m.Config) []*m.Table {
	tables := make([]*m.Table, n)
	for i := range tables {
		tables[i] = newBench(t, c).table
	}
	return tables
}

// manyTries lets a test of a table that is never done end. Whoever gives up holds nothing, so that the others can go on.
const manyTries = 5000

// workTillDone tells what was granted, and how many commits were taken.
func workTillDone(table *m.Table, far int) ([]m.Grant, int) {
	var grants []m.Grant
	commits := 0
	for k := 0; k < manyTries && table.Status().Phase < 3; k++ {
		g, err := table.Request()
		if err != nil {
			runtime.Gosched()
			continue
		}
		grants = append(grants, g)
		table.Heartbeat(g.ID, far)
		table.Live()
		if table.Commit(g.ID) == nil {
			commits++
		}
	}
	return grants, commits
}

// TestWholeJobsAtOnce: each attempt is granted once, each task is done once (P2).
func TestWholeJobsAtOnce(t *testing.T) {
	tables := newTables(t, 300, m.Config{Maps: 16, Reduces: 16, Workers: 8, Attempts: 10, Backups: 3, Lease: 100})
	grants := make([][8][]m.Grant, len(tables))
	commits := make([]atomic.Int32, len(tables))
	atOnce(len(tables), func(k, w int) {
		g, n := workTillDone(tables[k], 10*w)
		grants[k][w] = g
		commits[k].Add(int32(n))
	})
	for k, table := range tables {
		ids, tasks := map[int]int{}, map[[2]int]int{}
		for _, g := range slices.Concat(grants[k][:]...) {
			ids[g.ID]++
			tasks[[2]int{g.Phase, g.Task}]++
		}
		for id := 1; id <= len(ids); id++ {
			if ids[id] != 1 {
				t.Errorf("P2: attempt %d was granted %d times", id, ids[id])
			}
		}
		if n := commits[k].Load(); n != 32 || len(tasks) != 32 {
			t.Errorf("P2: %d commits were taken, of %d tasks", n, len(tasks))
		}
		if s := table.Status(); s != (m.Status{Phase: 3}) {
			t.Errorf("P2: Status = %+v", s)
		}
	}
}

func TestTicksAtOnce(t *testing.T) {
	table := newBench(t, small()).table
	atOnce(100, func(int, int) {
		for range 1000 {
			table.Tick()
		}
	})
	if s := table.Status(); s.Now != 800_000 {
		t.Errorf("P2: after 800,000 Ticks the time is %d", s.Now)
	}
}

// TestOneAttemptToldAtOnce: of several that tell that it is over, one is taken.
func TestOneAttemptToldAtOnce(t *testing.T) {
	for name, tell := range map[string]func(*m.Table, int) error{"Commit": (*m.Table).Commit, "Fail": (*m.Table).Fail} {
		tables := newTables(t, 10_000, small())
		for _, table := range tables {
			table.Request()
		}
		taken := make([]atomic.Int32, len(tables))
		atOnce(len(tables), func(k, w int) {
			if tell(tables[k], 1) == nil {
				taken[k].Add(1)
			}
		})
		for k := range taken {
			if n := taken[k].Load(); n != 1 {
				t.Fatalf("P2: %s(1), by eight goroutines, was taken %d times", name, n)
			}
		}
	}
}

func TestRequestsAtOnce(t *testing.T) {
	tables := newTables(t, 5000, m.Config{Maps: 16, Reduces: 1, Workers: 8, Attempts: 1, Lease: 1})
	ids := make([][16]atomic.Int32, len(tables))
	tasks := make([][16]atomic.Int32, len(tables))
	atOnce(len(tables), func(k, w int) {
		for range 2 {
			g, err := tables[k].Request()
			if err != nil || g.ID < 1 || g.ID > 16 || g.Task < 0 || g.Task > 15 {
				t.Errorf("P2: Request = %v, %s", g, why(err))
				return
			}
			ids[k][g.ID-1].Add(1)
			tasks[k][g.Task].Add(1)
		}
	})
	for k := range tables {
		for i := range 16 {
			if n, o := ids[k][i].Load(), tasks[k][i].Load(); n != 1 || o != 1 {
				t.Fatalf("P2: attempt %d was granted %d times, task %d %d times", i+1, n, i, o)
			}
		}
	}
}

// watchTillDone tells what it sees wrong in a table at which others work.
func watchTillDone(table *m.Table) string {
	for range manyTries {
		s, live := table.Status(), table.Live()
		if s.Phase == 3 {
			return ""
		}
		if all := s.Idle + s.Running + s.Done; all != []int{0, 16, 5}[s.Phase] || s.Backups != s.Live-s.Running {
			return fmt.Sprintf("Status = %+v", s)
		}
		for i, id := range live {
			if id < 1 || i > 0 && id <= live[i-1] {
				return fmt.Sprint("Live = ", live)
			}
			if err := table.Heartbeat(id, 101); err != m.ErrArg && err != m.ErrStale {
				return fmt.Sprintf("Heartbeat(%d, 101) = %s", id, why(err))
			}
		}
		runtime.Gosched()
	}
	return ""
}

// TestWatchedAtOnce: whoever looks in between sees a table as it is between two calls.
func TestWatchedAtOnce(t *testing.T) {
	tables := newTables(t, 1000, m.Config{Maps: 16, Reduces: 5, Workers: 8, Attempts: 10, Backups: 3, Lease: 100})
	atOnce(len(tables), func(k, w int) {
		if w < 4 {
			workTillDone(tables[k], 10*w)
		} else if wrong := watchTillDone(tables[k]); wrong != "" {
			t.Error("P2: ", wrong)
		}
	})
}

// TestHeartbeatsAtOnce: the attempt is as far as the furthest of them, so that no backup is due.
func TestHeartbeatsAtOnce(t *testing.T) {
	tables := newTables(t, 10_000, m.Config{Maps: 1, Reduces: 1, Workers: 1, Attempts: 2, Backups: 1, Lease: 100, Late: 10})
	for _, table := range tables {
		table.Request()
		for range 40 {
			table.Tick()
		}
	}
	atOnce(len(tables), func(k, w int) { tables[k].Heartbeat(1, 10+10*w) })
	for _, table := range tables {
		if g, err := table.Request(); err != m.ErrWait {
			t.Fatalf("P2: Request = %v, %s", g, why(err))
		}
	}
}
