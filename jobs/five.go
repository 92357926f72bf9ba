package jobs

import (
	"strconv"
	"strings"
)

// countWords is job 1: how often each word stands in the input.
func countWords(string) Job {
	return Job{
		Map: func(_ int, line string, emit Emit) bool {
			for _, word := range words(line) {
				emit(word, "1")
			}
			return true
		},
		Reduce: func(values []string) string { return strconv.Itoa(len(values)) },
	}
}

// indexWords is job 2: in which lines each word stands.
func indexWords(string) Job {
	return Job{
		Map: func(number int, line string, emit Emit) bool {
			told := map[string]struct{}{}
			for _, word := range words(line) {
				if _, again := told[word]; again {
					continue
				}
				told[word] = struct{}{}
				emit(word, strconv.Itoa(number))
			}
			return true
		},
		Reduce: func(values []string) string { return strings.Join(values, ",") },
	}
}

// addNumbers is job 3: what the numbers of each key add up to.
func addNumbers(string) Job {
	return Job{
		Map: func(_ int, line string, emit Emit) bool {
			key, text, _ := strings.Cut(line, " ")
			if _, ok := parseNumber(text); key == "" || !ok {
				return false
			}
			emit(key, text)
			return true
		},
		Reduce: addUp,
	}
}

// sortLines is job 4: each line once.
func sortLines(string) Job {
	return Job{
		Map: func(_ int, line string, emit Emit) bool {
			emit(line, "")
			return true
		},
		Reduce: func([]string) string { return "" },
	}
}

// findLines is job 5: the lines that contain arg.
func findLines(arg string) Job {
	return Job{
		Map: func(number int, line string, emit Emit) bool {
			if strings.Contains(line, arg) {
				emit(sixDigits(number), line)
			}
			return true
		},
		Reduce: func(values []string) string { return values[0] },
	}
}
