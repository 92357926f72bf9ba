package mapreduce

const (
	stepEvent = iota + 1
	tickEvent
	crashEvent
	stallEvent
)

// run is a whole job under way.
type run struct {
	shop    *workshop
	workers *crew
	report  Report
}

// goThrough takes events till the job is over, or cannot go on.
func (r *run) goThrough(next func() (Event, bool)) error {
	if next == nil { // nobody tells an event
		return ErrEnded
	}
	for {
		e, ok := next()
		if !ok {
			return ErrEnded
		}
		r.report.Events++
		if err := r.takeIn(e); err != nil {
			return err
		}
		r.shop.store.Keep(r.shop.table.Live())
		status := r.shop.table.Status()
		if status.Failed {
			return ErrExhausted
		}
		if status.Phase == donePhase {
			return nil
		}
	}
}

func (r *run) takeIn(e Event) error {
	switch e.Kind {
	case tickEvent:
		r.shop.table.Tick()
	case stepEvent, crashEvent, stallEvent:
		if r.workers.has(e.Worker) {
			return r.count(r.workers.order(e.Worker, e))
		}
	}
	return nil
}

func (r *run) count(a answer) error {
	r.report.Grants += a.grants
	r.report.Backups += a.backups
	r.report.Commits += a.commits
	return a.err
}

// tell fills in what is known at the end only.
func (r *run) tell(err error) (Report, error) {
	if err == nil {
		r.report.Output = r.shop.output()
	}
	_, r.report.Peak = r.shop.store.Used()
	return r.report, err
}
