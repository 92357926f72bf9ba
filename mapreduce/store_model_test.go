package mapreduce_test

import (
	"fmt"
	"math/rand"
	"slices"
	"strings"
	"testing"

	m "mapreduce/mapreduce"
)

// laid is something that lies in a store.
type laid struct {
	published  bool
	id         int // whose it is; of no meaning once it is published
	name, data string
}

// slowStore is a store told straight from the promise: one list, added up anew at each call.
type slowStore struct {
	room, most int
	all        []laid
}

func (s *slowStore) now() int {
	n := 0
	for _, l := range s.all {
		n += len(l.data)
	}
	return n
}

func (s *slowStore) stage(id int, name, data string) error {
	rest := slices.Clone(s.all)
	rest = slices.DeleteFunc(rest, func(l laid) bool { return !l.published && l.id == id && l.name == name })
	next := slowStore{all: append(rest, laid{id: id, name: name, data: data})}
	if next.now() > s.room {
		return m.ErrFull
	}
	s.all = next.all
	s.most = max(s.most, s.now())
	return nil
}

func (s *slowStore) publish(id int) error {
	found, taken := false, false
	for _, l := range s.all {
		if !l.published && l.id == id {
			found = true
			_, err := s.get(l.name)
			taken = taken || err == nil
		}
	}
	if !found {
		return m.ErrUnknown
	}
	if taken {
		return m.ErrStale
	}
	for i := range s.all {
		if s.all[i].id == id {
			s.all[i].published = true
		}
	}
	return nil
}

func (s *slowStore) keep(live []int) {
	s.all = slices.DeleteFunc(s.all, func(l laid) bool { return !l.published && !slices.Contains(live, l.id) })
}

func (s *slowStore) discard(id int) {
	s.all = slices.DeleteFunc(s.all, func(l laid) bool { return !l.published && l.id == id })
}

func (s *slowStore) get(name string) (string, error) {
	for _, l := range s.all {
		if l.published && l.name == name {
			return l.data, nil
		}
	}
	return "", m.ErrUnknown
}

// someIDs tells some of the numbers from 0 to 4, in any order, perhaps several times.
func someIDs(r *rand.Rand) []int {
	var ids []int
	for range r.Intn(5) {
		ids = append(ids, r.Intn(5))
	}
	return ids
}

// askBothStores asks the same of a store and of a slow one, and tells both answers.
func askBothStores(r *rand.Rand, store *m.Store, slow *slowStore) (string, string, string) {
	id := r.Intn(5) - 1
	switch k := r.Intn(20); {
	case k < 13:
		name, data := string(rune('a'+r.Intn(6))), strings.Repeat(string(rune('0'+r.Intn(10))), r.Intn(6))
		return fmt.Sprintf("Stage(%d, %q, %q)", id, name, data), why(store.Stage(id, name, data)), why(slow.stage(id, name, data))
	case k < 16:
		return fmt.Sprintf("Publish(%d)", id), why(store.Publish(id)), why(slow.publish(id))
	case k < 18:
		store.Discard(id)
		slow.discard(id)
		return fmt.Sprintf("Discard(%d)", id), "", ""
	default:
		live := someIDs(r)
		store.Keep(live)
		slow.keep(live)
		return fmt.Sprintf("Keep(%v)", live), "", ""
	}
}

// TestAgainstTheSlowStore: the seed is fixed, so each run asks the same.
func TestAgainstTheSlowStore(t *testing.T) {
	r := rand.New(rand.NewSource(11))
	answers := map[string]int{}
	for range 4000 {
		room := r.Intn(40) - 2
		store, slow := m.NewStore(room), &slowStore{room: max(room, 0)}
		var asked []string
		for range 40 {
			call, got, want := askBothStores(r, store, slow)
			asked = append(asked, call)
			name, _, _ := strings.Cut(call, "(")
			answers[name+" "+want]++
			now, most := store.Used()
			got += fmt.Sprint(" ", now, most)
			want += fmt.Sprint(" ", slow.now(), slow.most)
			for _, n := range "abcdef" {
				data, err := store.Get(string(n))
				wanted, wrong := slow.get(string(n))
				got += fmt.Sprintf(" %q %s", data, why(err))
				want += fmt.Sprintf(" %q %s", wanted, why(wrong))
			}
			if got != want {
				t.Fatalf("P11: room %d, after %v: got %s, want %s", room, asked, got, want)
			}
		}
	}
	for _, answer := range []string{"Stage " + why(nil), "Stage " + why(m.ErrFull), "Publish " + why(nil), "Publish " + why(m.ErrStale), "Publish " + why(m.ErrUnknown)} {
		if answers[answer] < 1000 {
			t.Errorf("only %d of the calls answer %s: they are too much alike", answers[answer], answer)
		}
	}
}
