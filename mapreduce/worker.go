package mapreduce

const mostStalls = 1000

// answer is what came of an order, as far as the report or the end hangs on it.
type answer struct {
	grants, backups, commits int
	err                      error
}

// worker works at its grant, whose ID is 0 while it works at nothing: attempts are numbered from 1 on.
type worker struct {
	shop   *workshop
	grant  Grant
	taken  int // how many of the attempt's four steps
	stalls int
}

func (w *worker) obey(order Event) answer {
	switch order.Kind {
	case stepEvent:
		return w.step()
	case crashEvent:
		w.rest()
		w.stalls = 0
	case stallEvent:
		w.stalls = min(max(order.N, 0), mostStalls)
	}
	return answer{}
}

func (w *worker) rest() { w.grant, w.taken = Grant{}, 0 }

func (w *worker) step() answer {
	if w.stalls > 0 {
		w.stalls--
		return answer{}
	}
	if w.grant.ID == 0 {
		return w.request()
	}
	return w.goOn()
}

func (w *worker) request() answer {
	g, err := w.shop.table.Request()
	if err != nil { // a later step asks again
		return answer{}
	}
	w.grant = g
	if g.Backup {
		return answer{grants: 1, backups: 1}
	}
	return answer{grants: 1}
}

// goOn takes the next of an attempt's four steps.
func (w *worker) goOn() answer {
	w.taken++
	switch w.taken {
	case 1:
		if w.beat(0) {
			return answer{err: w.shop.work(w.grant)}
		}
	case 2:
		w.beat(50)
	case 3:
		w.beat(100)
	default:
		return w.finish()
	}
	return answer{}
}

// beat tells whether the attempt still counts; one that does not is let go.
func (w *worker) beat(far int) bool {
	if w.shop.table.Heartbeat(w.grant.ID, far) != nil {
		w.rest()
		return false
	}
	return true
}

func (w *worker) finish() answer {
	defer w.rest()
	if w.shop.table.Commit(w.grant.ID) != nil {
		return answer{}
	}
	// Of all attempts at a task one commits, so its names are not published yet.
	return answer{commits: 1, err: w.shop.store.Publish(w.grant.ID)}
}
