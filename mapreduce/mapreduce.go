// Package mapreduce: jobs over lines of text, cut into tasks: see DOC.md.
package mapreduce

import (
	"errors"
	"strconv"
	"sync"
)

// Why something is refused: asked with errors.Is.
var (
	ErrArg       = errors.New("an argument that may not be")
	ErrShort     = errors.New("a record that ends too early")
	ErrSum       = errors.New("a record whose sum is wrong")
	ErrInput     = errors.New("a line that the job cannot take")
	ErrFull      = errors.New("no room is left")
	ErrUnknown   = errors.New("there is none")
	ErrStale     = errors.New("it counts no longer")
	ErrWait      = errors.New("nothing is to be done just now")
	ErrDone      = errors.New("all is done")
	ErrExhausted = errors.New("a task has been tried too often")
	ErrEnded     = errors.New("the events have ended")
)

// Fault is a reason and where: asked with errors.As (for a *Fault).
type Fault struct {
	At  int
	Err error
}

func (f *Fault) Error() string {
	if f == nil {
		return "no fault"
	}
	return reasonText(f.Err) + ", at " + strconv.Itoa(f.At)
}

func (f *Fault) Unwrap() error {
	if f == nil {
		return nil
	}
	return f.Err
}

// Pair is a key and a value.
type Pair struct {
	Key, Value string
}

// Config tells how many there are of everything (P7).
type Config struct {
	Maps, Reduces, Workers int
	Attempts, Backups      int
	Lease, Late, Capacity  int
}

// Grant is an attempt at a task (P8).
type Grant struct {
	ID, Task, Phase int
	Backup          bool
}

// Status tells how a table stands (P10).
type Status struct {
	Phase, Idle, Running, Done int
	Live, Backups, Now         int
	Failed                     bool
}

// Event is what happens (P12).
type Event struct {
	Kind, Worker, N int
}

// Report is what became of a job (P12).
type Report struct {
	Output                           string
	Events, Grants, Backups, Commits int
	Peak                             int
}

// Encode tells pairs as bytes (P3).
func Encode(pairs ...Pair) string {
	var out []byte
	for _, p := range pairs {
		out = appendRecord(out, p)
	}
	return string(out)
}

// Decode tells the pairs of a text (P3).
func Decode(text string) ([]Pair, error) {
	var pairs []Pair
	for text != "" {
		p, rest, err := cutRecord(text)
		if err != nil {
			return nil, &Fault{At: len(pairs), Err: err}
		}
		pairs = append(pairs, p)
		text = rest
	}
	return pairs, nil
}

// Part tells where a key belongs (P4).
func Part(key string, n int) int {
	if n < 1 {
		return 0
	}
	hash := uint32(2166136261)
	for i := range len(key) {
		hash ^= uint32(key[i])
		hash *= 16777619
	}
	return int(uint64(hash) % uint64(n))
}

// Merge makes runs one (P5).
func Merge[T any](less func(a, b T) bool, runs ...[]T) func(yield func(T) bool) {
	if less == nil { // no order: all things are alike
		less = func(a, b T) bool { return false }
	}
	own := copyRuns(runs) // the caller may change the runs before they are told
	return func(yield func(T) bool) {
		if yield != nil {
			tellMerged(less, own, yield)
		}
	}
}

// Local does a job without tasks (P6).
func Local(job int, arg, input string, reduces int) (string, error) {
	p, err := newPlan(job, arg, input, reduces)
	if err != nil {
		return "", err
	}
	out := ""
	for _, part := range p.mapLines(0, len(p.lines)) {
		out += p.reduceRuns(part)
	}
	return out, nil
}

// Table tells who works at what (P7 to P10).
type Table struct {
	lock sync.Mutex
	book book
}

// NewTable makes the table of a job (P7).
func NewTable(c Config) (*Table, error) {
	if !mayBe(c) {
		return nil, ErrArg
	}
	return &Table{book: newBook(c)}, nil
}

// Request asks for something to do (P8).
func (t *Table) Request() (Grant, error) {
	t.lock.Lock()
	defer t.lock.Unlock()
	return t.book.request()
}

// Heartbeat tells that an attempt goes on (P9).
func (t *Table) Heartbeat(id, far int) error {
	t.lock.Lock()
	defer t.lock.Unlock()
	return t.book.heartbeat(id, far)
}

// Commit tells that an attempt is done (P9).
func (t *Table) Commit(id int) error {
	t.lock.Lock()
	defer t.lock.Unlock()
	return t.book.commit(id)
}

// Fail tells that an attempt has failed (P9).
func (t *Table) Fail(id int) error {
	t.lock.Lock()
	defer t.lock.Unlock()
	return t.book.fail(id)
}

// Tick lets the time go on (P9).
func (t *Table) Tick() {
	t.lock.Lock()
	defer t.lock.Unlock()
	t.book.tick()
}

// Live tells the attempts that count (P10).
func (t *Table) Live() []int {
	t.lock.Lock()
	defer t.lock.Unlock()
	return t.book.liveIDs()
}

// Status tells how it stands (P10).
func (t *Table) Status() Status {
	t.lock.Lock()
	defer t.lock.Unlock()
	return t.book.status()
}

// Store keeps what attempts have staged and what is published (P11).
type Store struct {
	lock  sync.Mutex
	shelf shelf
}

// NewStore makes an empty one (P11).
func NewStore(room int) *Store {
	return &Store{shelf: newShelf(room)}
}

// Stage lays something down for an attempt (P11).
func (s *Store) Stage(id int, name, data string) error {
	s.lock.Lock()
	defer s.lock.Unlock()
	return s.shelf.stage(id, name, data)
}

// Publish makes all that an attempt has staged seen (P11).
func (s *Store) Publish(id int) error {
	s.lock.Lock()
	defer s.lock.Unlock()
	return s.shelf.publish(id)
}

// Discard takes away what an attempt has staged (P11).
func (s *Store) Discard(id int) {
	s.lock.Lock()
	defer s.lock.Unlock()
	s.shelf.discard(id)
}

// Keep takes away what other attempts have staged (P11).
func (s *Store) Keep(live []int) {
	s.lock.Lock()
	defer s.lock.Unlock()
	s.shelf.keep(live)
}

// Get tells what is published under a name (P11).
func (s *Store) Get(name string) (string, error) {
	s.lock.Lock()
	defer s.lock.Unlock()
	return s.shelf.get(name)
}

// Used tells how many bytes are there, and the most there ever were (P11).
func (s *Store) Used() (int, int) {
	s.lock.Lock()
	defer s.lock.Unlock()
	return s.shelf.used, s.shelf.most
}

// Run does a job by events (P12).
func Run(job int, arg, input string, c Config, next func() (Event, bool)) (Report, error) {
	table, err := NewTable(c)
	if err != nil {
		return Report{}, err
	}
	p, err := newPlan(job, arg, input, c.Reduces)
	if err != nil {
		return Report{}, err
	}
	shop := &workshop{plan: p, maps: c.Maps, table: table, store: NewStore(c.Capacity)}
	r := &run{shop: shop, workers: hire(c.Workers, shop)}
	defer r.workers.dismiss()
	return r.tell(r.goThrough(next))
}
