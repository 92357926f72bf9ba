package mapreduce

import "strconv"

// workshop is what the workers of a whole job share.
type workshop struct {
	plan  plan
	maps  int
	table *Table
	store *Store
}

func mapName(t, p int) string { return "m" + strconv.Itoa(t) + "." + strconv.Itoa(p) }

func reduceName(p int) string { return "r" + strconv.Itoa(p) }

// work does THE WORK of an attempt's task.
func (s *workshop) work(g Grant) error {
	if g.Phase == mapPhase {
		return s.mapTask(g.ID, g.Task)
	}
	return s.reduceTask(g.ID, g.Task)
}

func (s *workshop) mapTask(id, t int) error {
	all := len(s.plan.lines)
	for p, part := range s.plan.mapLines(t*all/s.maps, (t+1)*all/s.maps) {
		if err := s.store.Stage(id, mapName(t, p), Encode(part...)); err != nil {
			return err
		}
	}
	return nil
}

func (s *workshop) reduceTask(id, p int) error {
	runs := make([][]Pair, s.maps)
	for t := range runs {
		// In phase 2 all of phase 1 is published, and whole: neither can fail.
		text, _ := s.store.Get(mapName(t, p))
		runs[t], _ = Decode(text)
	}
	return s.store.Stage(id, reduceName(p), s.plan.reduceRuns(runs...))
}

// output tells what the reduce tasks have published, when all are done.
func (s *workshop) output() string {
	out := ""
	for p := range s.plan.reduces {
		text, _ := s.store.Get(reduceName(p))
		out += text
	}
	return out
}
