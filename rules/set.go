package rules

import (
	"cmp"
	"slices"

	"bascule/api"
	"bascule/part"
)

// whos is how many there are that a rule may name, with anybody: a key is so many times who, and what.
const whos = api.MaxWho + 1

func isOfAccess(c api.Config) bool {
	return part.Check(c) == api.OK && c.Object == api.ObjAccess
}

// areRules keeps the least key that may come next, and no key that was: the first one may be 0, which is anybody's rule of anything.
func areRules(c api.Config, l []api.Row) bool {
	if len(l) > c.Cap {
		return false
	}
	least := uint64(0)
	for _, r := range l {
		if r.K < least || r.K >= whos*whos || !isSaid(r.V) {
			return false
		}
		least = r.K + 1
	}
	return true
}

func isSaid(v uint64) bool {
	return v == uint64(api.Allow) || v == uint64(api.Deny)
}

func keyOf(who, what uint32) uint64 {
	return uint64(who)*whos + uint64(what)
}

// seek says where the rule of that who and that what stands, or would.
func seek(l []api.Row, o api.Op) (at int, there bool) {
	return slices.BinarySearchFunc(l, keyOf(o.A, o.B), func(r api.Row, key uint64) int {
		return cmp.Compare(r.K, key)
	})
}
