package order

import (
	"sort"

	"bascule/api"
	"bascule/part"
)

func isOfIndex(c api.Config) bool {
	return part.Check(c) == api.OK && c.Object == api.ObjIndex
}

// areEntries keeps the least key that may come next, and no key that was: the first one may be 0, above which nothing stands.
func areEntries(c api.Config, l []api.Row) bool {
	if len(l) > c.Cap {
		return false
	}
	least := uint64(0)
	for _, r := range l {
		if r.K < least || r.K > api.MaxValue || r.V > api.MaxValue {
			return false
		}
		least = r.K + 1
	}
	return true
}

// sought is a key that is looked for among rows.
type sought struct {
	key  uint64
	rows []api.Row
}

// isReached is what a search halves the rows by: it says no of all rows ahead of where the key stands, and yes from there on.
func (s sought) isReached(i int) bool {
	return s.rows[i].K >= s.key
}

// seek says where the key's row stands, or would.
func seek(l []api.Row, key uint32) (at int, there bool) {
	s := sought{key: uint64(key), rows: l}
	at = sort.Search(len(l), s.isReached)
	return at, at < len(l) && l[at].K == s.key
}
