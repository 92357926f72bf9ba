package mapreduce_test

import (
	"fmt"
	"strings"
	"sync/atomic"
	"testing"

	m "mapreduce/mapreduce"
)

func newStores(n, room int) []*m.Store {
	stores := make([]*m.Store, n)
	for i := range stores {
		stores[i] = m.NewStore(room)
	}
	return stores
}

func usedAre(t *testing.T, store *m.Store, now, most int) {
	t.Helper()
	if n, o := store.Used(); n != now || o != most {
		t.Fatalf("P2: Used = %d, %d, not %d, %d", n, o, now, most)
	}
}

// TestRoomSharedAtOnce: of eight that want two bytes of nine each, four have them.
func TestRoomSharedAtOnce(t *testing.T) {
	stores := newStores(5000, 9)
	staged := make([]atomic.Int32, len(stores))
	atOnce(len(stores), func(k, w int) {
		if err := stores[k].Stage(w, "x", "ab"); err == nil {
			staged[k].Add(1)
		} else if err != m.ErrFull {
			t.Errorf("P2: Stage = %s", why(err))
		}
	})
	for k, store := range stores {
		if n := staged[k].Load(); n != 4 {
			t.Fatalf("P2: %d were staged, of 2 bytes each, in a store for 9", n)
		}
		usedAre(t, store, 8, 8)
	}
}

// TestStagedAgainAtOnce: one attempt, one name: one of the texts lies there.
func TestStagedAgainAtOnce(t *testing.T) {
	stores := newStores(5000, 1000)
	atOnce(len(stores), func(k, w int) {
		for n := range 4 {
			stores[k].Stage(1, "x", strings.Repeat(fmt.Sprint(w), 10*n+w+1))
		}
		stores[k].Stage(1, "x", strings.Repeat(fmt.Sprint(w), 50))
	})
	for _, store := range stores {
		usedAre(t, store, 50, 50)
		store.Publish(1)
		data, err := store.Get("x")
		if err != nil || len(data) != 50 || strings.Trim(data, data[:1]) != "" {
			t.Fatalf("P2: Get = %q, %s", data, why(err))
		}
	}
}

// TestOneNamePublishedAtOnce: of eight attempts that have staged the same name one is published, as it is.
func TestOneNamePublishedAtOnce(t *testing.T) {
	stores := newStores(5000, 1000)
	taken := make([]atomic.Int32, len(stores))
	winner := make([]atomic.Int32, len(stores))
	atOnce(len(stores), func(k, w int) {
		for _, name := range []string{"x", fmt.Sprint(w), "y"} {
			stores[k].Stage(w, name, strings.Repeat("a", w))
		}
		if err := stores[k].Publish(w); err == nil {
			taken[k].Add(1)
			winner[k].Store(int32(w))
		} else if err != m.ErrStale {
			t.Errorf("P2: Publish(%d) = %s", w, why(err))
		}
	})
	for k, store := range stores {
		w := int(winner[k].Load())
		if n := taken[k].Load(); n != 1 {
			t.Fatalf("P2: one name was published %d times", n)
		}
		for _, name := range []string{"x", fmt.Sprint(w), "y"} {
			if data, err := store.Get(name); err != nil || len(data) != w {
				t.Fatalf("P2: %d has published, but Get(%q) = %q, %s", w, name, data, why(err))
			}
		}
		usedAre(t, store, 84, 84)
		store.Keep(nil)
		usedAre(t, store, 3*w, 84)
	}
}

// TestOneAttemptPublishedAtOnce: of several that publish it one does; the others find nothing staged.
func TestOneAttemptPublishedAtOnce(t *testing.T) {
	stores := newStores(10_000, 100)
	for _, store := range stores {
		store.Stage(1, "x", "abc")
	}
	taken := make([]atomic.Int32, len(stores))
	atOnce(len(stores), func(k, w int) {
		if err := stores[k].Publish(1); err == nil {
			taken[k].Add(1)
		} else if err != m.ErrUnknown {
			t.Errorf("P2: Publish(1) = %s", why(err))
		}
	})
	for k := range taken {
		if n := taken[k].Load(); n != 1 {
			t.Fatalf("P2: one attempt was published %d times", n)
		}
	}
}

// TestTakenAwayAtOnce: what is gone is gone once, by whichever call.
func TestTakenAwayAtOnce(t *testing.T) {
	stores := newStores(10_000, 100)
	for _, store := range stores {
		store.Stage(1, "x", "abc")
		store.Stage(1, "y", "de")
		store.Stage(2, "x", "f")
	}
	atOnce(len(stores), func(k, w int) {
		if w%2 == 0 {
			stores[k].Discard(1)
		} else {
			stores[k].Keep([]int{3, 2})
		}
	})
	for _, store := range stores {
		usedAre(t, store, 1, 6)
	}
}

// lookBehind tells what it sees wrong in a store of which four attempts use ten bytes each at most, and in which "a" and "b" are published in one.
func lookBehind(store *m.Store, w int) string {
	first, second := "a", "b"
	if w%2 == 0 {
		first, second = second, first
	}
	for range manyTries {
		_, err := store.Get(first)
		_, later := store.Get(second)
		if err == nil && later != nil {
			return fmt.Sprintf("%q is published, %q is not", first, second)
		}
		if now, most := store.Used(); now < 0 || now > most || most > 40 || now%2 != 0 {
			return fmt.Sprintf("Used = %d, %d", now, most)
		}
		if err == nil {
			return ""
		}
	}
	return ""
}

// TestStoresWatchedAtOnce: whoever looks in between sees a store as it is between two calls.
func TestStoresWatchedAtOnce(t *testing.T) {
	stores := newStores(2000, 40)
	atOnce(len(stores), func(k, w int) {
		if w >= 4 {
			if wrong := lookBehind(stores[k], w); wrong != "" {
				t.Error("P2: ", wrong)
			}
			return
		}
		for range 20 {
			stores[k].Stage(w, "c", "123456")
			stores[k].Stage(w, "d", "1234")
			stores[k].Discard(w)
		}
		stores[k].Stage(w, "a", "1234")
		stores[k].Stage(w, "b", "12")
		stores[k].Publish(w)
		stores[k].Keep([]int{0, 1, 2, 3})
	})
}
