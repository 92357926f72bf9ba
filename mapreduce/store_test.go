package mapreduce_test

import (
	"fmt"
	"math"
	"slices"
	"strings"
	"testing"
	"unsafe"

	m "mapreduce/mapreduce"
	"mapreduce/plain"
)

// keeper is a store, and what was asked of it so far.
type keeper struct {
	asker
	store *m.Store
}

func newKeeper(t *testing.T, room int) *keeper {
	t.Helper()
	store := m.NewStore(room)
	if store == nil {
		t.Fatalf("P11: NewStore(%d) = nil", room)
	}
	return &keeper{asker: asker{T: t}, store: store}
}

func (k *keeper) stage(id int, name, data string, reason error) {
	k.Helper()
	k.expect(fmt.Sprintf("P11: Stage(%d, %q, %q)", id, name, data), why(k.store.Stage(id, name, data)), why(reason))
}

func (k *keeper) publish(id int, reason error) {
	k.Helper()
	k.expect(fmt.Sprintf("P11: Publish(%d)", id), why(k.store.Publish(id)), why(reason))
}

func (k *keeper) discard(id int) {
	k.store.Discard(id)
	k.asked = append(k.asked, fmt.Sprintf("Discard(%d)", id))
}

func (k *keeper) keep(live ...int) {
	k.store.Keep(live)
	k.asked = append(k.asked, fmt.Sprintf("Keep(%v)", live))
}

func (k *keeper) get(name, data string) {
	k.Helper()
	got, err := k.store.Get(name)
	k.expect(fmt.Sprintf("P11: Get(%q)", name), fmt.Sprintf("%q %s", got, why(err)), fmt.Sprintf("%q ok", data))
}

func (k *keeper) getsNone(names ...string) {
	k.Helper()
	for _, name := range names {
		got, err := k.store.Get(name)
		k.expect(fmt.Sprintf("P11: Get(%q)", name), fmt.Sprintf("%q %s", got, why(err)), fmt.Sprintf("%q %s", "", why(m.ErrUnknown)))
	}
}

func (k *keeper) used(now, most int) {
	k.Helper()
	n, o := k.store.Used()
	k.expect("P11: Used", fmt.Sprint(n, o), fmt.Sprint(now, most))
}

func TestExample10(t *testing.T) {
	k := newKeeper(t, 5)
	k.stage(1, "x", "abc", nil)
	k.stage(2, "x", "abc", m.ErrFull)
	k.publish(1, nil)
	k.stage(2, "x", "a", nil)
	k.publish(2, m.ErrStale)
	k.get("x", "abc")
	k.used(4, 4)
}

func TestExample10InPlainData(t *testing.T) {
	s := m.NewStore(5)
	full, stale, unknown := 5, 7, 6 // as reasons are numbered there
	got := []int{
		plain.Stage(s, 1, "x", "abc"), plain.Stage(s, 2, "x", "abc"), plain.Publish(s, 1),
		plain.Stage(s, 2, "x", "a"), plain.Publish(s, 2), plain.Publish(s, 3),
	}
	if want := []int{0, full, 0, 0, stale, unknown}; !slices.Equal(got, want) {
		t.Errorf("P11: got %v, want %v", got, want)
	}
	if data, n := plain.Get(s, "x"); data != "abc" || n != 0 {
		t.Errorf("P11: Get = %q, %d", data, n)
	}
	if data, n := plain.Get(s, "y"); data != "" || n != unknown {
		t.Errorf("P11: Get = %q, %d", data, n)
	}
}

func TestANewStoreIsEmpty(t *testing.T) {
	for _, room := range []int{math.MinInt, -1, 0, 1, 1 << 20, math.MaxInt} {
		k := newKeeper(t, room)
		k.used(0, 0)
		k.getsNone("", "x", "m0.0", "r0")
		for _, id := range []int{math.MinInt, -1, 0, 1, math.MaxInt} {
			k.publish(id, m.ErrUnknown)
			k.discard(id)
			k.keep(id)
		}
		k.keep()
		k.used(0, 0)
	}
}

// TestNoRoom: of nothing there is room everywhere.
func TestNoRoom(t *testing.T) {
	for _, room := range []int{math.MinInt, -1_000_000, -5, -1, 0} {
		k := newKeeper(t, room)
		k.stage(1, "x", "a", m.ErrFull)
		k.stage(1, "a long name takes up nothing", "", nil)
		k.stage(1, "x", strings.Repeat("a", 1000), m.ErrFull)
		k.publish(1, nil)
		k.get("a long name takes up nothing", "")
		k.getsNone("x")
		k.stage(1, "x", "", nil)
		k.stage(1, "x", "a", m.ErrFull)
		k.publish(1, nil)
		k.get("x", "")
		k.used(0, 0)
	}
}

func TestRoomIsUsedUpToTheLastByte(t *testing.T) {
	for _, room := range []int{1, 2, 3, 10, 255, 65536} {
		all := strings.Repeat("a", room)
		k := newKeeper(t, room)
		k.stage(1, "x", all+"a", m.ErrFull)
		k.stage(1, "x", all, nil)
		k.used(room, room)
		k.stage(2, "y", "b", m.ErrFull)
		k.stage(2, "y", "", nil)
		k.stage(1, "y", "b", m.ErrFull)
		k.publish(1, nil)
		k.stage(1, "y", "b", m.ErrFull) // what is published takes up room too
		k.stage(2, "y", "b", m.ErrFull)
		k.publish(2, nil)
		k.get("x", all)
		k.get("y", "")
		k.used(room, room)
	}
}

func TestRoomForAll(t *testing.T) {
	k := newKeeper(t, math.MaxInt)
	some := strings.Repeat("a", 1<<20)
	for id := range 8 {
		k.stage(id, "x", some, nil)
	}
	k.used(8<<20, 8<<20)
}

// TestStagedAgain: what lay there under the name is gone, and takes up no room.
func TestStagedAgain(t *testing.T) {
	k := newKeeper(t, 5)
	k.stage(1, "x", "abc", nil)
	k.stage(1, "x", "defgh", nil)
	k.used(5, 5)
	k.stage(1, "x", "ijklm", nil)
	k.used(5, 5)
	k.stage(1, "x", "", nil)
	k.used(0, 5)
	k.stage(1, "x", "no", nil)
	k.used(2, 5)
	k.publish(1, nil)
	k.get("x", "no")
	k.used(2, 5)
}

// TestInThePlaceOfItsOwnAlone: neither another's nor another name's, nor what is published, makes room.
func TestInThePlaceOfItsOwnAlone(t *testing.T) {
	k := newKeeper(t, 6)
	k.stage(1, "x", "abc", nil)
	k.stage(2, "x", "abcd", m.ErrFull)
	k.stage(1, "y", "abcd", m.ErrFull)
	k.stage(2, "x", "def", nil)
	k.used(6, 6)
	k.publish(1, nil)
	k.stage(1, "x", "g", m.ErrFull)
	k.stage(2, "x", "hi", nil)
	k.stage(1, "x", "g", nil)
	k.get("x", "abc")
	k.used(6, 6)
}

// TestFullChangesNothing: also what the attempt has staged under that name is there yet.
func TestFullChangesNothing(t *testing.T) {
	k := newKeeper(t, 4)
	k.stage(1, "x", "ab", nil)
	k.stage(1, "x", "abcde", m.ErrFull)
	k.used(2, 2)
	k.stage(2, "y", "abc", m.ErrFull)
	k.publish(2, m.ErrUnknown)
	k.used(2, 2)
	k.stage(1, "y", "abc", m.ErrFull)
	k.publish(1, nil)
	k.get("x", "ab")
	k.getsNone("y")
	k.used(2, 2)
}

func TestWhatIsStagedIsNotGot(t *testing.T) {
	k := newKeeper(t, 9)
	k.stage(1, "x", "a", nil)
	k.getsNone("x")
	k.publish(1, nil)
	k.get("x", "a")
	k.stage(1, "x", "b", nil)
	k.stage(2, "x", "c", nil)
	k.get("x", "a")
	k.getsNone("", "X", "x ", "xx")
}

// TestPublishedAtOnceAndOnce: all that it has staged, and afterwards it has nothing.
func TestPublishedAtOnceAndOnce(t *testing.T) {
	k := newKeeper(t, 20)
	k.stage(1, "x", "a", nil)
	k.stage(2, "y", "other", nil)
	k.stage(1, "y", "bc", nil)
	k.stage(1, "z", "", nil)
	k.publish(1, nil)
	k.get("x", "a")
	k.get("y", "bc")
	k.get("z", "")
	k.used(8, 8)
	k.publish(1, m.ErrUnknown)
	k.stage(1, "w", "def", nil)
	k.publish(1, nil)
	k.get("w", "def")
	k.get("x", "a")
	k.used(11, 11)
}

// TestStaleChangesNothing: none of its names is published, and all is there yet, staged.
func TestStaleChangesNothing(t *testing.T) {
	names := strings.Split("abcdefghij", "")
	for _, taken := range names {
		k := newKeeper(t, 100)
		k.stage(1, taken, "first", nil)
		k.publish(1, nil)
		for _, name := range names {
			k.stage(2, name, "xy", nil)
		}
		k.publish(2, m.ErrStale)
		k.publish(2, m.ErrStale)
		k.used(25, 25)
		for _, name := range names {
			if name == taken {
				k.get(name, "first")
			} else {
				k.getsNone(name)
			}
		}
		k.discard(2)
		k.used(5, 25)
		k.publish(2, m.ErrUnknown)
	}
}

func TestItsOwnNameIsTakenToo(t *testing.T) {
	k := newKeeper(t, 10)
	k.stage(1, "x", "ab", nil)
	k.publish(1, nil)
	k.stage(1, "x", "ab", nil)
	k.used(4, 4)
	k.publish(1, m.ErrStale)
	k.stage(1, "y", "c", nil)
	k.publish(1, m.ErrStale)
	k.getsNone("y")
	k.discard(1)
	k.used(2, 5)
	k.stage(1, "y", "c", nil)
	k.publish(1, nil)
	k.get("y", "c")
	k.get("x", "ab")
}

func TestAnyNameIsAName(t *testing.T) {
	names := []string{"", " ", "\x00", "\x00\x00", "\xff", "\xfe\xff", "é", "e\u0301", "m1.0", "m10", "r0", "R0", strings.Repeat("x", 70_000), strings.Repeat("x", 70_001)}
	k := newKeeper(t, 100)
	for i, name := range names {
		k.stage(i, name, fmt.Sprint(i), nil)
	}
	k.getsNone(names...)
	for i, name := range names {
		k.publish(i, nil)
		k.get(name, fmt.Sprint(i))
	}
	if now, most := k.store.Used(); now != 18 || most != 18 {
		t.Errorf("P11: Used = %d, %d", now, most)
	}
}

func TestDataIsBytes(t *testing.T) {
	every := ""
	for b := range 256 {
		every += string([]byte{byte(b)})
	}
	for _, data := range []string{"\x00", "\xff\xfe", "a\nb\tc", "é", every} {
		k := newKeeper(t, len(data))
		k.stage(1, "x", data, nil)
		k.publish(1, nil)
		k.get("x", data)
		k.used(len(data), len(data))
	}
}

func TestAnyNumberIsAnAttempt(t *testing.T) {
	ids := []int{math.MinInt, math.MinInt + 1, -1 << 32, -2, -1, 0, 1, 2, 1 << 32, 1<<32 + 1, math.MaxInt}
	k := newKeeper(t, 100)
	for i, id := range ids {
		k.stage(id, fmt.Sprint(i), "a", nil)
	}
	k.used(len(ids), len(ids))
	k.discard(math.MinInt)
	k.discard(1 << 32)
	k.publish(math.MinInt, m.ErrUnknown)
	k.publish(1<<32, m.ErrUnknown)
	k.keep(-1, 1, math.MaxInt)
	k.used(3, len(ids))
	for i, id := range ids {
		if id == -1 || id == 1 || id == math.MaxInt {
			k.publish(id, nil)
			k.get(fmt.Sprint(i), "a")
		} else {
			k.publish(id, m.ErrUnknown)
			k.getsNone(fmt.Sprint(i))
		}
	}
}

// TestDiscard: what is published, and what others have staged, stays.
func TestDiscard(t *testing.T) {
	k := newKeeper(t, 10)
	k.stage(1, "x", "ab", nil)
	k.publish(1, nil)
	k.stage(1, "x", "cd", nil)
	k.stage(1, "y", "efg", nil)
	k.stage(2, "y", "hi", nil)
	k.used(9, 9)
	k.discard(1)
	k.used(4, 9)
	k.discard(1)
	k.discard(3)
	k.used(4, 9)
	k.publish(1, m.ErrUnknown)
	k.get("x", "ab")
	k.getsNone("y")
	k.publish(2, nil)
	k.get("y", "hi")
	k.discard(2)
	k.get("y", "hi")
	k.stage(3, "z", "123456", nil) // the room is free again
	k.used(10, 10)
}

func TestDiscardedNamesAreGone(t *testing.T) {
	k := newKeeper(t, 10)
	k.stage(1, "x", "ab", nil)
	k.discard(1)
	k.stage(1, "y", "cd", nil)
	k.publish(1, nil)
	k.getsNone("x")
	k.get("y", "cd")
}

// staged tells a store in which each of the attempts 1 to 6 has two things staged, one under a name that is published already.
func staged(t *testing.T) *keeper {
	k := newKeeper(t, 100)
	k.stage(7, "x", "published", nil)
	k.publish(7, nil)
	for id := 1; id <= 6; id++ {
		k.stage(id, "x", "1", nil)
		k.stage(id, fmt.Sprint(id), strings.Repeat("a", id), nil)
	}
	return k
}

func TestKeep(t *testing.T) {
	for _, live := range [][]int{nil, {}, {1}, {6}, {3, 1}, {1, 2, 3, 4, 5, 6}, {6, 6, 2, 6}, {7}, {0, -1, 8, math.MinInt, math.MaxInt}, {9, 4, 9}} {
		k := staged(t)
		k.keep(live...)
		now := len("published")
		for id := 1; id <= 6; id++ {
			if slices.Contains(live, id) {
				now += id + 1
				k.publish(id, m.ErrStale)
			} else {
				k.publish(id, m.ErrUnknown)
			}
			k.getsNone(fmt.Sprint(id))
		}
		k.get("x", "published")
		k.used(now, 36)
	}
}

func TestKeepIsForOnce(t *testing.T) {
	k := staged(t)
	k.keep(1, 2)
	k.stage(3, "3", "again", nil)
	k.publish(3, nil)
	k.keep(2, 3)
	k.publish(1, m.ErrUnknown)
	k.publish(2, m.ErrStale)
	k.used(9+5+3, 36)
}

// TestKeepOfLongLists: each is gone through once, not once for each of the other's.
func TestKeepOfLongLists(t *testing.T) {
	s := m.NewStore(1 << 20)
	var live []int
	for id := range 200_000 {
		s.Stage(id, "x", "a")
		live = append(live, 2*id)
	}
	s.Keep(live)
	if now, most := s.Used(); now != 100_000 || most != 200_000 {
		t.Errorf("P11: Used = %d, %d", now, most)
	}
}

// TestTheMostThereEverWas: neither what was refused nor what made room for other things counts with them.
func TestTheMostThereEverWas(t *testing.T) {
	k := newKeeper(t, 10)
	k.stage(1, "x", "abcd", nil)
	k.stage(2, "x", "abcdefg", m.ErrFull)
	k.used(4, 4)
	k.stage(1, "x", "abc", nil)
	k.used(3, 4)
	k.discard(1)
	k.used(0, 4)
	k.stage(2, "x", "ab", nil)
	k.publish(2, nil)
	k.used(2, 4)
	k.stage(2, "y", "ab", nil)
	k.used(4, 4)
	k.stage(3, "y", "a", nil)
	k.used(5, 5)
	k.keep(3)
	k.used(3, 5)
	k.stage(3, "y", "abcdefgh", nil)
	k.used(10, 10)
	k.keep()
	k.used(2, 10)
}

func TestStoresAreApart(t *testing.T) {
	a, b := newKeeper(t, 3), newKeeper(t, 5)
	a.stage(1, "x", "abc", nil)
	b.used(0, 0)
	b.publish(1, m.ErrUnknown)
	b.stage(1, "x", "12345", nil)
	a.publish(1, nil)
	b.getsNone("x")
	b.keep()
	a.get("x", "abc")
	a.used(3, 3)
	b.used(0, 5)
}

// TestStoresKnowNothingOfTables: an attempt that a table has dropped, or never granted, is one as others here.
func TestStoresKnowNothingOfTables(t *testing.T) {
	b, k := newBench(t, small()), newKeeper(t, 9)
	k.stage(1, "x", "a", nil)
	b.commit(1, m.ErrUnknown)
	b.grants(1, 0, 1, false)
	b.fail(1, nil)
	k.publish(1, nil)
	k.get("x", "a")
	k.discard(2)
	b.grants(2, 0, 1, false)
	k.keep()
	b.live(2)
}

// TestTextsAreNotKept: they are changed behind the store's back, as no other way tells whose they are.
func TestTextsAreNotKept(t *testing.T) {
	name, data, live := []byte("name"), []byte("data"), []int{2, 1, 3}
	k := newKeeper(t, 99)
	k.stage(1, unsafe.String(&name[0], 4), unsafe.String(&data[0], 4), nil)
	k.stage(2, "other", "more", nil)
	k.store.Stage(2, unsafe.String(&name[0], 4), unsafe.String(&data[0], 4))
	k.keep(live...)
	if !slices.Equal(live, []int{2, 1, 3}) || string(name) != "name" || string(data) != "data" {
		t.Errorf("P2: what went in is now %v, %s, %s", live, name, data)
	}
	copy(name, "none")
	copy(data, "gone")
	clear(live)
	k.publish(1, nil)
	k.get("name", "data")
	k.getsNone("none")
	k.publish(2, m.ErrStale)
	k.used(12, 12)
}
