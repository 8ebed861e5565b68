package paths

import (
	"cmp"
	"slices"

	"bascule/api"
)

// set turns the rows that it is handed, as unset does: they are its caller's own.
func set(c api.Config, l []api.Row, o api.Op) ([]api.Row, api.Res) {
	word := uint64(o.C) + 1
	if at, there := seek(l, o); there {
		was := l[at].V
		l[at].V = word
		return l, api.Res{V: uint32(was)}
	}
	fresh := lacking(withAbove(keyOf(named(o)), word), l)
	if len(l)+len(fresh) > c.Cap {
		return l, api.Res{Code: api.ErrFull}
	}
	return putIn(l, fresh), api.Res{}
}

// withAbove is a node with its word, and all that must stand above it, with none.
func withAbove(key, word uint64) map[uint64]uint64 {
	keys := map[uint64]uint64{key: word}
	for above := parentOf(key); above != 0; above = parentOf(above) {
		keys[above] = 0
	}
	return keys
}

// putIn sorts behind, since a map is gone through in any order.
func putIn(l []api.Row, fresh map[uint64]uint64) []api.Row {
	for key, word := range fresh {
		l = append(l, api.Row{K: key, V: word})
	}
	slices.SortFunc(l, func(a, b api.Row) int { return cmp.Compare(a.K, b.K) })
	return l
}

func unset(l []api.Row, o api.Op) ([]api.Row, api.Res) {
	at, there := seek(l, o)
	switch {
	case !there:
		return l, api.Res{Code: api.ErrNone}
	case hasBelow(l, l[at].K):
		return l, api.Res{Code: api.ErrUsed}
	}
	was := l[at].V
	return slices.Delete(l, at, at+1), api.Res{V: uint32(was)}
}

func hasBelow(l []api.Row, key uint64) bool {
	return slices.ContainsFunc(l, func(r api.Row) bool { return parentOf(r.K) == key })
}

// read tells nothing of a node that has no value, as where there is none.
func read(l []api.Row, o api.Op) api.Res {
	at, there := seek(l, o)
	if !there || l[at].V == 0 {
		return api.Res{Code: api.ErrNone}
	}
	return api.Res{V: uint32(l[at].V)}
}
