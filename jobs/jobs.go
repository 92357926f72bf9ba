// Package jobs: the jobs there are: what each makes of a line, and of a key's values.
package jobs

// Emit takes a key and a value that a line gives.
type Emit func(key, value string)

// Job is one job, its arg already given.
type Job struct {
	// Map emits what a line, of that number, gives; false of a line that the job cannot take.
	Map func(number int, line string, emit Emit) bool
	// Reduce tells what a key's values, at least one, come to.
	Reduce func(values []string) string
}

// Maker makes a job of its arg.
type Maker func(arg string) Job

// Catalogue is asked for jobs by their numbers.
type Catalogue interface {
	// Find tells how a job is made; false, if there is no such one.
	Find(number int) (Maker, bool)
}

// list is a catalogue whose first job has the number 1.
type list []Maker

func (l list) Find(number int) (Maker, bool) {
	if number < 1 || number > len(l) {
		return nil, false
	}
	return l[number-1], true
}

// All is the catalogue of the five jobs.
func All() Catalogue {
	return list{countWords, indexWords, addNumbers, sortLines, findLines}
}
