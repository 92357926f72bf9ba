package jobs

import (
	"strconv"
	"strings"
)

// mostDigits keeps each number well within 64 bits; only sums wrap round.
const mostDigits = 18

// Lines tells an input's lines; a line end at the very end begins no further line.
func Lines(input string) []string {
	if input == "" {
		return nil
	}
	return strings.Split(strings.TrimSuffix(input, "\n"), "\n")
}

// words tells a line's words; other white space than blanks and tabs belongs to them.
func words(line string) []string {
	return strings.FieldsFunc(line, func(r rune) bool { return r == ' ' || r == '\t' })
}

// parseNumber is stricter than strconv's: no plus, no underscores, and a limit on the digits, noughts ahead too.
func parseNumber(text string) (int64, bool) {
	digits, negative := strings.CutPrefix(text, "-")
	if len(digits) < 1 || len(digits) > mostDigits {
		return 0, false
	}
	var n int64
	for i := range len(digits) {
		d := digits[i]
		if d < '0' || d > '9' {
			return 0, false
		}
		n = 10*n + int64(d-'0')
	}
	if negative {
		n = -n
	}
	return n, true
}

func addUp(values []string) string {
	var sum int64
	for _, v := range values {
		n, _ := parseNumber(v)
		sum += n
	}
	return strconv.FormatInt(sum, 10)
}

func sixDigits(number int) string {
	text := strconv.Itoa(number)
	return strings.Repeat("0", max(0, 6-len(text))) + text
}
