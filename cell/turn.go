package cell

import "bascule/api"

// has says no of a nil memory too, so that Do asks but once ahead of touching a cell.
func (m *Mem) has(at int) bool {
	return m != nil && at >= 0 && at < len(m.cells)
}

// turnOf hands out nil where there is no such kind. What it hands out tells whether the access was done, and asks for a place that the memory has.
func (m *Mem) turnOf(kind uint8) func(api.Access) bool {
	switch kind {
	case api.AccLoad:
		return m.load
	case api.AccStore:
		return m.store
	case api.AccCas:
		return m.exchange
	case api.AccAdd:
		return m.add
	}
	return nil
}

// load has nothing to turn: what was seen, Do keeps for every kind.
func (m *Mem) load(api.Access) bool {
	return true
}

func (m *Mem) store(a api.Access) bool {
	m.cells[a.At] = a.New
	return true
}

func (m *Mem) exchange(a api.Access) bool {
	same := m.cells[a.At] == a.Old
	if same {
		m.cells[a.At] = a.New
	}
	return same
}

// add leaves the sum to the word's own wrap-round, which is the modulo that is asked for.
func (m *Mem) add(a api.Access) bool {
	m.cells[a.At].A += a.New.A
	return true
}
