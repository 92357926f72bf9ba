package mapreduce

import (
	"maps"
	"strings"
)

// piece is what lies under a name.
type piece struct {
	data string
}

// shelf is what a store keeps, without its lock.
type shelf struct {
	room      int
	used      int
	most      int // the most that used ever was
	published map[string]piece
	staged    map[int]map[string]piece // an attempt that has nothing staged is not in it
}

func newShelf(room int) shelf {
	return shelf{
		room:      max(room, 0),
		published: make(map[string]piece),
		staged:    make(map[int]map[string]piece),
	}
}

func (s *shelf) stage(id int, name, data string) error {
	others := s.used - len(s.staged[id][name].data)
	if len(data) > s.room-others {
		return ErrFull
	}
	if s.staged[id] == nil {
		s.staged[id] = make(map[string]piece)
	}
	// Name and data may be cut out of far longer texts, which are not to be kept with them.
	s.staged[id][strings.Clone(name)] = piece{data: strings.Clone(data)}
	s.used = others + len(data)
	s.most = max(s.most, s.used)
	return nil
}

func (s *shelf) publish(id int) error {
	pieces, ok := s.staged[id]
	if !ok {
		return ErrUnknown
	}
	for name := range pieces {
		if _, taken := s.published[name]; taken {
			return ErrStale
		}
	}
	maps.Copy(s.published, pieces)
	delete(s.staged, id)
	return nil
}

func (s *shelf) discard(id int) {
	for _, p := range s.staged[id] {
		s.used -= len(p.data)
	}
	delete(s.staged, id)
}

func (s *shelf) keep(live []int) {
	kept := make(map[int]struct{}, len(live))
	for _, id := range live {
		kept[id] = struct{}{}
	}
	for id := range s.staged {
		if _, ok := kept[id]; !ok {
			s.discard(id)
		}
	}
}

func (s *shelf) get(name string) (string, error) {
	p, ok := s.published[name]
	if !ok {
		return "", ErrUnknown
	}
	return p.data, nil
}
