package mapreduce_test

import (
	"iter"
	"slices"
	"testing"

	m "mapreduce/mapreduce"
	"mapreduce/plain"
)

func itemLess(a, b plain.Item) bool { return a.K < b.K }

// expectMerge is P5 word by word: again and again it looks at the first one of every run.
func expectMerge(runs [][]plain.Item) []plain.Item {
	left := slices.Clone(runs)
	var out []plain.Item
	for {
		least := -1
		for i, run := range left {
			if len(run) > 0 && (least < 0 || run[0].K < left[least][0].K) {
				least = i
			}
		}
		if least < 0 {
			return out
		}
		out = append(out, left[least][0])
		left[least] = left[least][1:]
	}
}

// smallRuns tells all runs of at most two things with keys below 3.
func smallRuns() [][]int {
	runs := [][]int{{}}
	for a := range 3 {
		runs = append(runs, []int{a})
		for b := range 3 {
			runs = append(runs, []int{a, b})
		}
	}
	return runs
}

// tagged makes runs of keys runs of items, each with a tag of its own.
func tagged(keys ...[]int) [][]plain.Item {
	tag := 0
	runs := make([][]plain.Item, len(keys))
	for i, l := range keys {
		for _, k := range l {
			tag++
			runs[i] = append(runs[i], plain.Item{K: k, Tag: tag})
		}
	}
	return runs
}

func TestExample4(t *testing.T) {
	got, more := plain.Merge([][]plain.Item{{{K: 1, Tag: 1}, {K: 3, Tag: 2}}, {{K: 2, Tag: 3}, {K: 3, Tag: 4}}}, 0)
	if want := []plain.Item{{K: 1, Tag: 1}, {K: 2, Tag: 3}, {K: 3, Tag: 2}, {K: 3, Tag: 4}}; more || !slices.Equal(got, want) {
		t.Errorf("P5: Merge = %v, %v, want %v", got, more, want)
	}
}

func TestMergeOfAllSmallRuns(t *testing.T) {
	all := smallRuns()
	for _, a := range all {
		for _, b := range all {
			for _, c := range all {
				runs := tagged(a, b, c)
				if got, _ := plain.Merge(runs, 0); !slices.Equal(got, expectMerge(runs)) {
					t.Fatalf("P5: Merge(%v) = %v, want %v", runs, got, expectMerge(runs))
				}
			}
		}
	}
}

func TestMergeOfManyRuns(t *testing.T) {
	keys := make([][]int, 200)
	for i := range keys {
		for j := range i % 7 {
			keys[i] = append(keys[i], i*37%11+j*(i%3-1))
		}
	}
	runs := tagged(keys...)
	if got, _ := plain.Merge(runs, 0); !slices.Equal(got, expectMerge(runs)) {
		t.Error("P5: 200 runs are told in another order")
	}
}

func TestMergeStops(t *testing.T) {
	runs := tagged([]int{1, 3}, []int{}, []int{2, 3, 3}, []int{1, 9})
	want := expectMerge(runs)
	for n := 1; n <= len(want)+1; n++ {
		got, more := plain.Merge(runs, n)
		if more || !slices.Equal(got, want[:min(n, len(want))]) {
			t.Errorf("P5: no more than %d: %v, told more: %v", n, got, more)
		}
	}
}

func TestMergeOfNothing(t *testing.T) {
	for _, runs := range [][][]plain.Item{nil, {}, {nil}, {nil, {}, nil}} {
		if got, more := plain.Merge(runs, 0); len(got) > 0 || more {
			t.Errorf("P5: Merge(%v) = %v, %v", runs, got, more)
		}
	}
}

func TestMergeIsToldAnew(t *testing.T) {
	runs := tagged([]int{1, 3}, []int{2, 3})
	merged := iter.Seq[plain.Item](m.Merge(itemLess, runs...))
	next, stop := iter.Pull(merged)
	defer stop()
	for _, want := range expectMerge(runs) {
		if got, ok := next(); !ok || got != want {
			t.Errorf("P5: the first time: %v, %v, want %v", got, ok, want)
		}
		if again := slices.Collect(merged); !slices.Equal(again, expectMerge(runs)) {
			t.Errorf("P5: told again in between: %v", again)
		}
	}
}

func TestMergeOnlyReadsAndKeepsNothing(t *testing.T) {
	runs := tagged([]int{1, 3}, []int{2, 3})
	before := tagged([]int{1, 3}, []int{2, 3})
	want := expectMerge(before)
	merged := m.Merge(itemLess, runs...)
	var got []plain.Item
	for x := range merged {
		got = append(got, x)
		if len(got) == len(want) && !(slices.Equal(runs[0], before[0]) && slices.Equal(runs[1], before[1])) {
			t.Errorf("P2: Merge changed the runs: %v", runs)
		}
	}
	runs[0][0] = plain.Item{K: 8}
	runs[1] = nil
	if again := slices.Collect(iter.Seq[plain.Item](merged)); !slices.Equal(got, want) || !slices.Equal(again, want) {
		t.Errorf("P2: Merge holds on to the runs: %v, then %v, want %v", got, again, want)
	}
}

func TestMergeWithoutFunctions(t *testing.T) {
	var got []int
	for x := range m.Merge(nil, []int{3, 1}, []int{2}) {
		got = append(got, x)
	}
	if !slices.Equal(got, []int{3, 1, 2}) {
		t.Errorf("P1: Merge without an order = %v", got)
	}
	m.Merge(itemLess, tagged([]int{1})...)(nil)
}

func TestMergeOfOtherThings(t *testing.T) {
	shorter := func(a, b []string) bool { return len(a) < len(b) }
	got := 0
	for x := range m.Merge(shorter, [][]string{{"a", "b"}}, [][]string{{"c"}}) {
		got = got*10 + len(x)
	}
	if got != 12 {
		t.Errorf("P5: Merge of lists by length = %d", got)
	}
}
