package jobs_test

import (
	"math"
	"slices"
	"strings"
	"testing"

	"mapreduce/jobs"
)

// mapped tells what a job emits of a line, as key=value; false, if it cannot take it.
func mapped(t *testing.T, job int, arg string, number int, line string) ([]string, bool) {
	t.Helper()
	maker, ok := jobs.All().Find(job)
	if !ok {
		t.Fatalf("there is no job %d", job)
	}
	var out []string
	took := maker(arg).Map(number, line, func(key, value string) { out = append(out, key+"="+value) })
	return out, took
}

func TestCatalogue(t *testing.T) {
	for _, number := range []int{math.MinInt, -1, 0, 6, math.MaxInt} {
		if maker, ok := jobs.All().Find(number); ok || maker != nil {
			t.Errorf("P6: there is a job %d", number)
		}
	}
	for number := 1; number <= 5; number++ {
		if maker, ok := jobs.All().Find(number); !ok || maker == nil {
			t.Errorf("P6: there is no job %d", number)
		}
	}
}

func TestLines(t *testing.T) {
	for _, c := range []struct {
		input string
		want  []string
	}{
		{"", nil},
		{"\n", []string{""}},
		{"\n\n", []string{"", ""}},
		{"a", []string{"a"}},
		{"a\n", []string{"a"}},
		{"a\nb", []string{"a", "b"}},
		{"a\n\nb\n", []string{"a", "", "b"}},
		{"a\n\n", []string{"a", ""}},
		{"\na", []string{"", "a"}},
		{"a\r\n ", []string{"a\r", " "}},
	} {
		if got := jobs.Lines(c.input); !slices.Equal(got, c.want) {
			t.Errorf("P6: the lines of %q are %q, want %q", c.input, got, c.want)
		}
	}
}

func TestMap(t *testing.T) {
	for _, c := range []struct {
		job    int
		arg    string
		number int
		line   string
		want   []string
	}{
		{1, "", 7, "", nil},
		{1, "", 7, " \t ", nil},
		{1, "", 7, "\tb a  b", []string{"b=1", "a=1", "b=1"}},
		{1, "", 7, "a\vb\rc\u00a0d \xff\x00", []string{"a\vb\rc\u00a0d=1", "\xff\x00=1"}},
		{2, "", 0, "b a b b", []string{"b=0", "a=0"}},
		{2, "", 65535, " b ", []string{"b=65535"}},
		{2, "", 65535, " ", nil},
		{3, "", 7, "k -007", []string{"k=-007"}},
		{3, "", 7, "k\tl 0", []string{"k\tl=0"}},
		{4, "", 7, "", []string{"="}},
		{4, "", 7, " a\tb ", []string{" a\tb ="}},
		{5, "o", 0, "no", []string{"000000=no"}},
		{5, "o", 12, "yes", nil},
		{5, "o o", 65535, "o o o", []string{"065535=o o o"}},
		{5, "", 10, "", []string{"000010="}},
	} {
		if got, ok := mapped(t, c.job, c.arg, c.number, c.line); !ok || !slices.Equal(got, c.want) {
			t.Errorf("P6: job %d of %q in line %d: %q, %v, want %q", c.job, c.line, c.number, got, ok, c.want)
		}
	}
}

func TestMapRefuses(t *testing.T) {
	for _, line := range []string{
		"", " ", "x", "x ", " 1", "  1", "x  1", "x 1 ", "x 1 2", "x\t1", "x -", "x --1", "x +1", "x 1-", "x 1_0", "x 0x1", "x 1.", "x \u0661", "x /", "x :",
		"x " + strings.Repeat("0", 19), "x -" + strings.Repeat("9", 19),
	} {
		if got, ok := mapped(t, 3, "", 0, line); ok || len(got) > 0 {
			t.Errorf("P6: job 3 takes %q: %q", line, got)
		}
	}
}

func TestReduce(t *testing.T) {
	many := func(n int, value string) []string { return slices.Repeat([]string{value}, n) }
	most := strings.Repeat("9", 18)
	for _, c := range []struct {
		job    int
		values []string
		want   string
	}{
		{1, []string{"1"}, "1"},
		{1, many(123, "1"), "123"},
		{2, []string{"3"}, "3"},
		{2, []string{"0", "3", "12"}, "0,3,12"},
		{3, []string{"-0"}, "0"},
		{3, []string{"007"}, "7"},
		{3, []string{"5", "-7"}, "-2"},
		{3, []string{most}, most},
		{3, []string{"-" + most}, "-" + most},
		{3, append(many(9, most), "223372036854775816"), "9223372036854775807"},
		{3, append(many(9, most), "223372036854775817"), "-9223372036854775808"},
		{3, append(many(9, "-"+most), "-223372036854775817"), "-9223372036854775808"},
		{3, append(many(9, "-"+most), "-223372036854775818"), "9223372036854775807"},
		{4, many(3, ""), ""},
		{5, []string{"b"}, "b"},
		{5, []string{"b", "a"}, "b"},
	} {
		maker, _ := jobs.All().Find(c.job)
		if got := maker("").Reduce(c.values); got != c.want {
			t.Errorf("P6: job %d: %q come to %q, want %q", c.job, c.values, got, c.want)
		}
	}
}
