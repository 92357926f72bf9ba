package mapreduce_test

import (
	"errors"
	"fmt"
	"math"
	"testing"

	m "mapreduce/mapreduce"
	"mapreduce/plain"
)

func reasons() []error {
	return []error{m.ErrArg, m.ErrShort, m.ErrSum, m.ErrInput, m.ErrFull, m.ErrUnknown, m.ErrStale, m.ErrWait, m.ErrDone, m.ErrExhausted, m.ErrEnded}
}

// why tells an error's reasons, by their texts, and the place that is told with it.
func why(err error) string {
	if err == nil {
		return "ok"
	}
	text := ""
	for _, r := range reasons() {
		if errors.Is(err, r) {
			text += r.Error()
		}
	}
	var f *m.Fault
	if errors.As(err, &f) {
		text += fmt.Sprint(" at ", f.At)
	}
	return text
}

func whyAt(reason error, at int) string { return fmt.Sprint(reason, " at ", at) }

// asker is a test, and what was asked in it so far.
type asker struct {
	*testing.T
	asked []string
}

func (a *asker) expect(asked string, got, want any) {
	a.Helper()
	if fmt.Sprint(got) != fmt.Sprint(want) {
		a.Errorf("%s, behind %q: got %v, want %v", asked, a.asked, got, want)
	}
	a.asked = append(a.asked, asked)
}

// foreign is an error that no text can be asked of.
type foreign struct{ list []int }

func (foreign) Error() string { panic("asked for its text") }

func TestReasonsAreApart(t *testing.T) {
	for i, a := range reasons() {
		if a == nil || a.Error() == "" {
			t.Errorf("Words: reason %d has no text", i)
		}
		for j, b := range reasons() {
			if errors.Is(a, b) != (i == j) {
				t.Errorf("Words: reasons %d and %d: Is = %v", i, j, i != j)
			}
		}
		if errors.Unwrap(a) != nil {
			t.Errorf("Words: reason %d wraps another", i)
		}
	}
}

func TestFaultWrapsItsReason(t *testing.T) {
	for i, r := range reasons() {
		for _, at := range []int{0, 7, -1, math.MinInt, math.MaxInt} {
			f := &m.Fault{At: at, Err: r}
			if f.Unwrap() != r || f.Error() == "" || f.At != at || f.Err != r {
				t.Errorf("Words: Fault of %v at %d: Unwrap = %v, Error = %q", r, at, f.Unwrap(), f.Error())
			}
			if why(f) != whyAt(r, at) {
				t.Errorf("Words: Fault of %v at %d is taken as %s", r, at, why(f))
			}
		}
		if n, at, text := plain.Reason(i, true); n != i+1 || at != 7 || !text {
			t.Errorf("Words: plain.Reason(%d, true) = %d, %d, %v", i, n, at, text)
		}
		if n, at, text := plain.Reason(i, false); n != i+1 || at != -1 || !text {
			t.Errorf("Words: plain.Reason(%d, false) = %d, %d, %v", i, n, at, text)
		}
	}
}

func TestFaultOfOtherErrors(t *testing.T) {
	inner := &m.Fault{At: 1, Err: m.ErrStale}
	self := &m.Fault{At: 2}
	self.Err = self
	for _, err := range []error{nil, errors.New(""), inner, foreign{[]int{1}}, (*m.Fault)(nil)} {
		f := &m.Fault{At: 3, Err: err}
		if f.Error() == "" {
			t.Errorf("Words: a Fault of %T has no text", err)
		}
		if _, apart := err.(foreign); !apart && f.Unwrap() != err {
			t.Errorf("Words: Unwrap of a Fault of %T is %v", err, f.Unwrap())
		}
	}
	if self.Error() == "" || self.Unwrap() != error(self) {
		t.Error("P1: a Fault of itself")
	}
	if outer := (&m.Fault{At: 4, Err: inner}); !errors.Is(outer, m.ErrStale) {
		t.Error("Words: a Fault of a Fault does not wrap the reason")
	}
	var none *m.Fault
	if none.Error() == "" || none.Unwrap() != nil {
		t.Error("P1: a Fault that is nil")
	}
}
