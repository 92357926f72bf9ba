package mapreduce

import (
	"iter"
	"slices"
	"strings"

	"mapreduce/jobs"
)

const (
	mostBytes   = 65536
	mostReduces = 16
)

// findJob makes the job that is asked for, if all that it is given may be.
func findJob(job int, arg, input string, reduces int) (jobs.Job, error) {
	if !within(reduces, 1, mostReduces) || len(arg) > mostBytes || len(input) > mostBytes {
		return jobs.Job{}, ErrArg
	}
	maker, ok := jobs.All().Find(job)
	if !ok {
		return jobs.Job{}, ErrArg
	}
	return maker(arg), nil
}

// plan is a job with its input, all of whose lines it can take.
type plan struct {
	job     jobs.Job
	lines   []string
	reduces int
}

func newPlan(job int, arg, input string, reduces int) (plan, error) {
	found, err := findJob(job, arg, input, reduces)
	if err != nil {
		return plan{}, err
	}
	lines := jobs.Lines(input)
	nowhere := func(key, value string) {}
	for number, line := range lines {
		if !found.Map(number, line, nowhere) {
			return plan{}, &Fault{At: number, Err: ErrInput}
		}
	}
	return plan{job: found, lines: lines, reduces: reduces}, nil
}

// mapLines tells what the lines from one number on up to another emit, by parts, each sorted by keys, alike ones as emitted.
func (p plan) mapLines(from, to int) [][]Pair {
	parts := make([][]Pair, p.reduces)
	emit := func(key, value string) {
		n := Part(key, p.reduces)
		parts[n] = append(parts[n], Pair{Key: key, Value: value})
	}
	for number := from; number < to; number++ {
		p.job.Map(number, p.lines[number], emit)
	}
	for _, part := range parts {
		slices.SortStableFunc(part, func(a, b Pair) int { return strings.Compare(a.Key, b.Key) })
	}
	return parts
}

func keyLess(a, b Pair) bool { return a.Key < b.Key }

// groups tells each key with its values, of pairs in which alike keys stand together. The values are only lent: the next key's take their place.
func groups(pairs iter.Seq[Pair]) iter.Seq2[string, []string] {
	return func(yield func(string, []string) bool) {
		key := ""
		var values []string
		for p := range pairs {
			if len(values) > 0 && p.Key != key {
				if !yield(key, values) {
					return
				}
				values = values[:0]
			}
			key = p.Key
			values = append(values, p.Value)
		}
		if len(values) > 0 {
			yield(key, values)
		}
	}
}

// reduceRuns tells a part's lines, of its runs, each sorted by keys.
func (p plan) reduceRuns(runs ...[]Pair) string {
	var out strings.Builder
	for key, values := range groups(Merge(keyLess, runs...)) {
		out.WriteString(key)
		out.WriteByte('\t')
		out.WriteString(p.job.Reduce(values))
		out.WriteByte('\n')
	}
	return out.String()
}
