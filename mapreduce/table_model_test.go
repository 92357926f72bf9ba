package mapreduce_test

import (
	"fmt"
	"math/rand"
	"testing"

	m "mapreduce/mapreduce"
)

// tried is an attempt that was ever granted.
type tried struct {
	m.Grant
	far, granted, heard int
	counts              bool
}

// slowTable is a table told straight from the promises: it forgets nothing, and works out all else anew at each call.
type slowTable struct {
	c      m.Config
	all    []tried // the attempt with number n is the one at n - 1
	done   map[[2]int]bool
	now    int
	failed bool
}

func newSlowTable(c m.Config) *slowTable { return &slowTable{c: c, done: map[[2]int]bool{}} }

func (s *slowTable) tasks(phase int) int { return []int{0, s.c.Maps, s.c.Reduces, 0}[phase] }

func (s *slowTable) phase() int {
	for phase := 1; phase <= 2; phase++ {
		for n := range s.tasks(phase) {
			if !s.done[[2]int{phase, n}] {
				return phase
			}
		}
	}
	return 3
}

// at tells how many attempts at a task were granted, those that count, and the least of their estimates.
func (s *slowTable) at(phase, n int) (int, int, int) {
	granted, counting, least := 0, 0, 0
	for _, a := range s.all {
		if a.Phase != phase || a.Task != n {
			continue
		}
		granted++
		if !a.counts {
			continue
		}
		by := a.far
		if by == 0 {
			by = 1
		}
		e := (100 - a.far) * (s.now - a.granted) / by
		if counting == 0 || e < least {
			least = e
		}
		counting++
	}
	return granted, counting, least
}

func (s *slowTable) request() (m.Grant, error) {
	phase := s.phase()
	if s.failed {
		return m.Grant{}, m.ErrExhausted
	}
	if phase == 3 {
		return m.Grant{}, m.ErrDone
	}
	late, latest := -1, -1
	for n := range s.tasks(phase) {
		granted, counting, estimate := s.at(phase, n)
		if s.done[[2]int{phase, n}] {
			continue
		}
		if counting == 0 {
			return s.grant(m.Grant{Task: n, Phase: phase}), nil
		}
		if counting <= s.c.Backups && granted < s.c.Attempts && estimate > s.c.Late && estimate > latest {
			late, latest = n, estimate
		}
	}
	if late < 0 {
		return m.Grant{}, m.ErrWait
	}
	return s.grant(m.Grant{Task: late, Phase: phase, Backup: true}), nil
}

func (s *slowTable) grant(g m.Grant) m.Grant {
	g.ID = len(s.all) + 1
	s.all = append(s.all, tried{Grant: g, granted: s.now, heard: s.now, counts: true})
	return g
}

func (s *slowTable) drop(a *tried) {
	a.counts = false
	granted, counting, _ := s.at(a.Phase, a.Task)
	if counting == 0 && granted == s.c.Attempts {
		s.failed = true
	}
}

// tell carries out a call that names an attempt.
func (s *slowTable) tell(call string, id, far int) error {
	if id < 1 || id > len(s.all) {
		return m.ErrUnknown
	}
	a := &s.all[id-1]
	if !a.counts {
		return m.ErrStale
	}
	switch call {
	case "beat":
		if far < 0 || far > 100 {
			return m.ErrArg
		}
		a.heard = s.now
		if far > a.far {
			a.far = far
		}
	case "commit":
		s.done[[2]int{a.Phase, a.Task}] = true
		for i := range s.all {
			if s.all[i].Phase == a.Phase && s.all[i].Task == a.Task {
				s.all[i].counts = false
			}
		}
	case "fail":
		s.drop(a)
	}
	return nil
}

func (s *slowTable) tick() {
	s.now++
	for i := range s.all {
		if a := &s.all[i]; a.counts && s.now-a.heard > s.c.Lease {
			s.drop(a)
		}
	}
}

func (s *slowTable) live() []int {
	var ids []int
	for _, a := range s.all {
		if a.counts {
			ids = append(ids, a.ID)
		}
	}
	return ids
}

func (s *slowTable) status() m.Status {
	phase := s.phase()
	out := m.Status{Phase: phase, Now: s.now, Failed: s.failed}
	for n := range s.tasks(phase) {
		_, counting, _ := s.at(phase, n)
		if s.done[[2]int{phase, n}] {
			out.Done++
		} else if counting == 0 {
			out.Idle++
		} else {
			out.Running++
			out.Backups += counting - 1
		}
		out.Live += counting
	}
	return out
}

// askBoth asks the same of a table and of a slow one, and tells both answers.
func askBoth(r *rand.Rand, table *m.Table, slow *slowTable) (string, string, string) {
	id := r.Intn(len(slow.all)+3) - 1
	if live := slow.live(); len(live) > 0 && r.Intn(4) > 0 {
		id = live[r.Intn(len(live))]
	}
	far := r.Intn(130) - 10
	switch k := r.Intn(20); {
	case k < 8:
		g, err := table.Request()
		h, wrong := slow.request()
		return "Request", fmt.Sprint(g, why(err)), fmt.Sprint(h, why(wrong))
	case k < 12:
		table.Tick()
		slow.tick()
		return "Tick", "", ""
	case k < 16:
		return fmt.Sprintf("Heartbeat(%d, %d)", id, far), why(table.Heartbeat(id, far)), why(slow.tell("beat", id, far))
	case k < 18:
		return fmt.Sprintf("Commit(%d)", id), why(table.Commit(id)), why(slow.tell("commit", id, 0))
	default:
		return fmt.Sprintf("Fail(%d)", id), why(table.Fail(id)), why(slow.tell("fail", id, 0))
	}
}

// TestAgainstTheSlowTable: the seed is fixed, so each run asks the same.
func TestAgainstTheSlowTable(t *testing.T) {
	r := rand.New(rand.NewSource(7))
	late := []int{0, 1, 50, 100, 250, 1000}
	ends := map[string]int{}
	for range 4000 {
		c := m.Config{Maps: 1 + r.Intn(4), Reduces: 1 + r.Intn(3), Workers: 1 + r.Intn(8), Attempts: 1 + r.Intn(10), Backups: r.Intn(4), Lease: 1 + r.Intn(8), Late: late[r.Intn(len(late))]}
		table, err := m.NewTable(c)
		if err != nil {
			t.Fatalf("P7: NewTable(%+v): %v", c, err)
		}
		slow := newSlowTable(c)
		var asked []string
		for range 100 {
			call, got, want := askBoth(r, table, slow)
			asked = append(asked, call)
			got += fmt.Sprintf(" %v %+v", table.Live(), table.Status())
			want += fmt.Sprintf(" %v %+v", slow.live(), slow.status())
			if got != want {
				t.Fatalf("P7 to P10: %+v, after %v: got %s, want %s", c, asked, got, want)
			}
		}
		s := table.Status()
		ends[fmt.Sprint(s.Phase, s.Failed)]++
	}
	for _, end := range []string{"1 false", "1 true", "2 false", "2 true", "3 false"} {
		if ends[end] < 20 {
			t.Errorf("only %d of the tables end as %s: the calls are too much alike", ends[end], end)
		}
	}
}
