package mapreduce_test

import (
	"errors"
	"fmt"
	"math"
	"math/rand"
	"slices"
	"strings"
	"testing"

	m "mapreduce/mapreduce"
)

type slowWorker struct {
	works  bool
	grant  m.Grant
	steps  int // of the attempt's four
	stalls int
}

// slowRun is a whole job told straight from the promise, without goroutines, over a slow table and a slow store.
type slowRun struct {
	job        int
	arg, input string
	c          m.Config
	table      *slowTable
	store      *slowStore
	workers    []slowWorker
	report     m.Report
}

func newSlowRun(job int, arg, input string, c m.Config) *slowRun {
	return &slowRun{job: job, arg: arg, input: input, c: c, table: newSlowTable(c), store: &slowStore{room: c.Capacity}, workers: make([]slowWorker, c.Workers)}
}

// mapText is what lies under mT.P.
func (s *slowRun) mapText(t, p int) string {
	lines := expectLines(s.input)
	var pairs []m.Pair
	for i, line := range lines {
		if i < t*len(lines)/s.c.Maps || i >= (t+1)*len(lines)/s.c.Maps {
			continue
		}
		emitted, _ := expectEmitted(s.job, s.arg, i, line)
		for _, e := range emitted {
			if expectPart(e.Key, s.c.Reduces) == p {
				pairs = append(pairs, e)
			}
		}
	}
	slices.SortStableFunc(pairs, func(a, b m.Pair) int { return strings.Compare(a.Key, b.Key) })
	text := ""
	for _, e := range pairs {
		text += record(e)
	}
	return text
}

func (s *slowRun) work(g m.Grant) error {
	if g.Phase == 1 {
		for p := range s.c.Reduces {
			if err := s.store.stage(g.ID, fmt.Sprintf("m%d.%d", g.Task, p), s.mapText(g.Task, p)); err != nil {
				return err
			}
		}
		return nil
	}
	parts, _ := expectParts(s.job, s.arg, s.input, s.c.Reduces)
	return s.store.stage(g.ID, fmt.Sprintf("r%d", g.Task), parts[g.Task])
}

func (s *slowRun) step(w *slowWorker) error {
	if w.stalls > 0 {
		w.stalls--
		return nil
	}
	if !w.works {
		g, err := s.table.request()
		if err == nil {
			*w = slowWorker{works: true, grant: g}
			s.report.Grants++
		}
		if g.Backup {
			s.report.Backups++
		}
		return nil
	}
	w.steps++
	if w.steps < 4 {
		if s.table.tell("beat", w.grant.ID, []int{0, 0, 50, 100}[w.steps]) != nil {
			*w = slowWorker{}
		} else if w.steps == 1 {
			return s.work(w.grant)
		}
		return nil
	}
	if s.table.tell("commit", w.grant.ID, 0) == nil {
		s.report.Commits++
		if err := s.store.publish(w.grant.ID); err != nil {
			return errors.New("a commit without something to publish")
		}
	}
	*w = slowWorker{}
	return nil
}

func (s *slowRun) takeIn(e m.Event) error {
	if e.Kind == 2 {
		s.table.tick()
	}
	if e.Worker < 0 || e.Worker >= s.c.Workers {
		return nil
	}
	w := &s.workers[e.Worker]
	switch e.Kind {
	case 1:
		return s.step(w)
	case 3:
		*w = slowWorker{}
	case 4:
		w.stalls = min(1000, max(0, e.N))
	}
	return nil
}

// over tells why the job is, if it is.
func (s *slowRun) over(events []m.Event) (string, bool) {
	for _, e := range events {
		s.report.Events++
		if err := s.takeIn(e); err != nil {
			return why(err), true
		}
		s.store.keep(s.table.live())
		if s.table.failed {
			return why(m.ErrExhausted), true
		}
		if s.table.phase() == 3 {
			for p := range s.c.Reduces {
				text, _ := s.store.get(fmt.Sprint("r", p))
				s.report.Output += text
			}
			return "ok", true
		}
	}
	return why(m.ErrEnded), false
}

// expectRun tells the report, why, and how often next is asked.
func expectRun(job int, arg, input string, c m.Config, events []m.Event) (m.Report, string, int) {
	s := newSlowRun(job, arg, input, c)
	reason, over := s.over(events)
	s.report.Peak = s.store.most
	if over {
		return s.report, reason, s.report.Events
	}
	return s.report, reason, s.report.Events + 1
}

func someInput(r *rand.Rand, job int) string {
	words := strings.Split("a b c ab d\xff é e f", " ")
	var lines []string
	for range r.Intn(12) {
		word := words[r.Intn(len(words))]
		if job == 3 {
			lines = append(lines, fmt.Sprint(word, " ", r.Intn(2000)-1000))
			continue
		}
		for range r.Intn(3) {
			word += " " + words[r.Intn(len(words))]
		}
		lines = append(lines, word)
	}
	return strings.Join(lines, "\n")
}

// someEvents are mostly steps: of all workers, or of those that there are.
func someEvents(r *rand.Rand, workers int) []m.Event {
	trouble := r.Intn(3)
	events := make([]m.Event, r.Intn(250))
	for i := range events {
		e := m.Event{Kind: 1, Worker: r.Intn(workers)}
		switch k := r.Intn(40); {
		case k < 3*trouble:
			e.Kind = 2
			e.Worker = r.Intn(4) - 2
		case k < 4*trouble:
			e.Kind = 3
		case k < 5*trouble:
			e.Kind = 4
			e.N = r.Intn(12) - 3
		case k == 39:
			e = []m.Event{{Kind: 0}, {Kind: 5}, {Kind: -1}, {Kind: math.MaxInt}, {Kind: 1, Worker: workers}, {Kind: 1, Worker: -1}, {Kind: 3, Worker: workers}, {Kind: 4, Worker: math.MinInt, N: 9}}[r.Intn(8)]
		}
		events[i] = e
	}
	return events
}

func someConfig(r *rand.Rand) m.Config {
	late := []int{0, 0, 1, 100, 250, 1000}
	c := m.Config{Maps: 1 + r.Intn(5), Reduces: 1 + r.Intn(4), Workers: 1 + r.Intn(4), Attempts: 1 + r.Intn(6), Backups: r.Intn(4), Lease: 1 + r.Intn(5), Late: late[r.Intn(len(late))], Capacity: 1 << 20}
	if r.Intn(3) == 0 {
		c.Capacity = r.Intn(500)
	}
	return c
}

// TestAgainstTheSlowRun: the seed is fixed, so each run asks the same.
func TestAgainstTheSlowRun(t *testing.T) {
	r := rand.New(rand.NewSource(12))
	ends := map[string]int{}
	backups := 0
	for range 6000 {
		c, job := someConfig(r), 1+r.Intn(5)
		arg, input, events := []string{"", "a", "b"}[r.Intn(3)], someInput(r, job), someEvents(r, c.Workers)
		want, reason, asked := expectRun(job, arg, input, c, events)
		if !checkRun(t, job, arg, input, c, events, want, reason, asked) {
			return
		}
		ends[reason]++
		backups += want.Backups
	}
	for _, end := range []error{nil, m.ErrEnded, m.ErrFull, m.ErrExhausted} {
		if ends[why(end)] < 500 {
			t.Errorf("only %d of the jobs end so: %s: the events are too much alike", ends[why(end)], why(end))
		}
	}
	if backups < 1000 {
		t.Errorf("only %d grants are backups: the events are too much alike", backups)
	}
}
