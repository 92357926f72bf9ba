package mapreduce_test

import (
	"fmt"
	"hash/fnv"
	"maps"
	"math"
	"math/big"
	"regexp"
	"slices"
	"strings"
	"testing"

	m "mapreduce/mapreduce"
	"mapreduce/plain"
)

func checkLocal(t *testing.T, job int, arg, input string, reduces int, want, reason string) {
	t.Helper()
	if got, err := m.Local(job, arg, input, reduces); got != want || why(err) != reason {
		t.Errorf("P6: Local(%d, %q, %q, %d) = %q, %s, want %q, %s", job, arg, input, reduces, got, why(err), want, reason)
	}
}

func TestExamples5To7(t *testing.T) {
	checkLocal(t, 1, "", "b a\na", 1, "a\t2\nb\t1\n", "ok")
	checkLocal(t, 2, "", "b a\na", 1, "a\t0,1\nb\t0\n", "ok")
	checkLocal(t, 3, "", "x 5\ny", 1, "", whyAt(m.ErrInput, 1))
	checkLocal(t, 3, "", "x 5\nx -7", 1, "x\t-2\n", "ok")
	checkLocal(t, 5, "o", "no\nyes\nor", 1, "000000\tno\n000002\tor\n", "ok")
	checkLocal(t, 9, "", "", 1, "", m.ErrArg.Error())
	if s, n, at := plain.Local(3, "", "x 5\ny", 1); s != "" || n != 4 || at != 1 {
		t.Errorf("P6: plain.Local of a wrong line = %q, %d, %d", s, n, at)
	}
	if s, n, at := plain.Local(9, "", "", 1); s != "" || n != 1 || at != -1 {
		t.Errorf("P6: plain.Local of no job = %q, %d, %d", s, n, at)
	}
}

func TestLocalLimits(t *testing.T) {
	most, over := strings.Repeat("a", 65536), strings.Repeat("a", 65537)
	refused := m.ErrArg.Error()
	for job := 1; job <= 5; job++ {
		for _, reduces := range []int{math.MinInt, -1, 0, 17, math.MaxInt} {
			checkLocal(t, job, "", "a 1", reduces, "", refused)
		}
		for _, reduces := range []int{1, 16} {
			checkLocal(t, job, "", "", reduces, "", "ok")
		}
		checkLocal(t, job, over, "a 1", 1, "", refused)
		checkLocal(t, job, "", over, 1, "", refused)
	}
	for _, job := range []int{math.MinInt, -1, 0, 6, math.MaxInt} {
		checkLocal(t, job, "", "a 1", 1, "", refused)
	}
	checkLocal(t, 1, most, most, 1, most+"\t1\n", "ok")
	checkLocal(t, 4, most, most, 16, most+"\t\n", "ok")
	checkLocal(t, 5, most, most, 1, "000000\t"+most+"\n", "ok")
}

func TestLocalTellsTheErrorNamedFirst(t *testing.T) {
	over := strings.Repeat("a", 65537)
	refused := m.ErrArg.Error()
	checkLocal(t, 3, "", "x", 0, "", refused)
	checkLocal(t, 3, "", "x", 17, "", refused)
	checkLocal(t, 3, over, "x", 1, "", refused)
	checkLocal(t, 3, "", over, 1, "", refused)
	checkLocal(t, 3, "", "x", 16, "", whyAt(m.ErrInput, 0))
}

func TestLocalWrongLines(t *testing.T) {
	for _, line := range []string{"x", "x ", " 1", "x  1", "x 1 ", "x\t1", "x -", "x +1", "x 1a", "x 1234567890123456789"} {
		for at := range 4 {
			input := strings.Repeat("k 1\n", at) + line + "\nk 1\n" + line
			checkLocal(t, 3, "", input, 3, "", whyAt(m.ErrInput, at))
		}
	}
	checkLocal(t, 3, "", "\n", 1, "", whyAt(m.ErrInput, 0))
	checkLocal(t, 3, "", "k 1\n\n", 1, "", whyAt(m.ErrInput, 1))
	checkLocal(t, 3, "", "k 1\n", 1, "k\t1\n", "ok")
}

func TestLocalSumsWrapRound(t *testing.T) {
	nines := strings.Repeat("x 999999999999999999\n", 9)
	checkLocal(t, 3, "", nines+"x 223372036854775816", 1, "x\t9223372036854775807\n", "ok")
	checkLocal(t, 3, "", nines+"x 223372036854775817", 1, "x\t-9223372036854775808\n", "ok")
	checkLocal(t, 3, "", "x -0\ny -007\nz 010", 1, "x\t0\ny\t-7\nz\t10\n", "ok")
}

func TestLocalComparesBytesAsNumbers(t *testing.T) {
	checkLocal(t, 4, "", "\u00e9\n\xff\na\x00\na\n\x80\nZ\n\nab", 1, "\t\nZ\t\na\t\na\x00\t\nab\t\n\x80\t\n\u00e9\t\n\xff\t\n", "ok")
	checkLocal(t, 1, "", "b\xff b\x7f b\x80", 1, "b\x7f\t1\nb\x80\t1\nb\xff\t1\n", "ok")
}

func TestLocalManyLines(t *testing.T) {
	all := strings.Repeat("\n", 65536)
	checkLocal(t, 4, "", all, 1, "\t\n", "ok")
	got, err := m.Local(5, "", all, 1)
	if lines := strings.SplitAfter(got, "\n"); err != nil || len(lines) != 65537 || lines[0] != "000000\t\n" || lines[65535] != "065535\t\n" {
		t.Errorf("P6: job 5 of 65,536 lines: %d bytes, %v", len(got), err)
	}
	numbers := make([]string, 32768)
	for i := range numbers {
		numbers[i] = fmt.Sprint(i)
	}
	checkLocal(t, 2, "", strings.Repeat("w\n", 32768), 1, "w\t"+strings.Join(numbers, ",")+"\n", "ok")
}

var numberLine = regexp.MustCompile(`(?s)^([^ ]+) (-?[0-9]{1,18})$`)

// expectEmitted is the table of P6 for one line: keys and values in turn; false, if job 3 cannot take it.
func expectEmitted(job int, arg string, number int, line string) ([]m.Pair, bool) {
	words := slices.DeleteFunc(strings.Split(strings.ReplaceAll(line, "\t", " "), " "), func(w string) bool { return w == "" })
	var out []m.Pair
	switch job {
	case 1:
		for _, w := range words {
			out = append(out, m.Pair{Key: w, Value: "1"})
		}
	case 2:
		for i, w := range words {
			if slices.Index(words, w) == i {
				out = append(out, m.Pair{Key: w, Value: fmt.Sprint(number)})
			}
		}
	case 3:
		found := numberLine.FindStringSubmatch(line)
		if found == nil {
			return nil, false
		}
		out = append(out, m.Pair{Key: found[1], Value: found[2]})
	case 4:
		out = append(out, m.Pair{Key: line})
	case 5:
		if strings.Contains(line, arg) {
			out = append(out, m.Pair{Key: fmt.Sprintf("%06d", number), Value: line})
		}
	}
	return out, true
}

func expectValue(job int, values []string) string {
	switch job {
	case 1:
		return fmt.Sprint(len(values))
	case 2:
		return strings.Join(values, ",")
	case 3:
		sum := new(big.Int)
		for _, v := range values {
			n, _ := new(big.Int).SetString(v, 10)
			sum.Add(sum, n)
		}
		return sum.String()
	case 5:
		return values[0]
	}
	return ""
}

func expectLines(input string) []string {
	lines := strings.Split(input, "\n")
	if lines[len(lines)-1] == "" {
		lines = lines[:len(lines)-1]
	}
	return lines
}

func expectPart(key string, reduces int) int {
	h := fnv.New32a()
	h.Write([]byte(key))
	return int(h.Sum32() % uint32(reduces))
}

// expectParts is P6 by other means: a map of all values, and a text for each part.
func expectParts(job int, arg, input string, reduces int) ([]string, string) {
	values := map[string][]string{}
	for i, line := range expectLines(input) {
		emitted, ok := expectEmitted(job, arg, i, line)
		if !ok {
			return nil, whyAt(m.ErrInput, i)
		}
		for _, p := range emitted {
			values[p.Key] = append(values[p.Key], p.Value)
		}
	}
	parts := make([]string, reduces)
	for _, key := range slices.Sorted(maps.Keys(values)) {
		parts[expectPart(key, reduces)] += key + "\t" + expectValue(job, values[key]) + "\n"
	}
	return parts, "ok"
}

func expectLocal(job int, arg, input string, reduces int) (string, string) {
	parts, reason := expectParts(job, arg, input, reduces)
	return strings.Join(parts, ""), reason
}

// everyText calls do with each text of at most n pieces.
func everyText(n int, pieces []string, text string, do func(text string)) {
	do(text)
	if n == 0 {
		return
	}
	for _, p := range pieces {
		everyText(n-1, pieces, text+p, do)
	}
}

func TestLocalOfAllSmallInputs(t *testing.T) {
	for _, pieces := range [][]string{{"a", "b", " ", "\t", "\n"}, {"a ", "\xff 1", "-", "23", "\n"}, {"w 1\n", "v -2\n", "w v\n", "\n", "v"}} {
		everyText(5, pieces, "", func(input string) {
			for job := 1; job <= 5; job++ {
				for _, reduces := range []int{1, 3, 16} {
					want, reason := expectLocal(job, "a", input, reduces)
					checkLocal(t, job, "a", input, reduces, want, reason)
				}
			}
		})
	}
}

func TestLocalKeepsTheOrderOfValues(t *testing.T) {
	var input strings.Builder
	for i := range 2000 {
		fmt.Fprintf(&input, "w%d w%d w%d\n", i*7%13, i%5, i*i%11)
	}
	for _, reduces := range []int{1, 2, 16} {
		want, reason := expectLocal(2, "", input.String(), reduces)
		checkLocal(t, 2, "", input.String(), reduces, want, reason)
	}
}

func TestLocalKeepsNothing(t *testing.T) {
	checkLocal(t, 1, "", "b a\na", 2, "a\t2\nb\t1\n", "ok")
	checkLocal(t, 3, "", "x", 2, "", whyAt(m.ErrInput, 0))
	checkLocal(t, 1, "", "b a\na", 2, "a\t2\nb\t1\n", "ok")
	checkLocal(t, 5, "a", "b a\na", 1, "000000\tb a\n000001\ta\n", "ok")
	checkLocal(t, 5, "b", "b a\na", 1, "000000\tb a\n", "ok")
}
