package paths

import (
	"cmp"
	"slices"

	"bascule/api"
	"bascule/part"
)

// maxWord is the greatest value, and one.
const maxWord = api.MaxValue + 1

func isOfConfig(c api.Config) bool {
	return part.Check(c) == api.OK && c.Object == api.ObjConfig
}

// areNodes gathers the parents that there must be, and asks which of them have no row.
func areNodes(c api.Config, l []api.Row) bool {
	if len(l) > c.Cap {
		return false
	}
	last, parents := uint64(0), map[uint64]uint64{}
	for _, r := range l {
		if r.K <= last || !isPath(namesOf(r.K)) || r.V > maxWord {
			return false
		}
		last = r.K
		if parent := parentOf(r.K); parent != 0 {
			parents[parent] = 0
		}
	}
	return len(lacking(parents, l)) == 0
}

// lacking deletes from a set of keys, each with a word, those that have a row: its caller hands it a set of its own.
func lacking(keys map[uint64]uint64, l []api.Row) map[uint64]uint64 {
	for _, r := range l {
		delete(keys, r.K)
	}
	return keys
}

// seek says where the node of an operation's path stands, or would.
func seek(l []api.Row, o api.Op) (at int, there bool) {
	return slices.BinarySearchFunc(l, keyOf(named(o)), func(r api.Row, key uint64) int {
		return cmp.Compare(r.K, key)
	})
}
