package table

import (
	"cmp"
	"slices"

	"bascule/api"
	"bascule/rank"
)

// insert turns the rows that it is handed, as remove does: they are its caller's own.
func insert(c api.Config, l []api.Row, o api.Op) ([]api.Row, api.Res) {
	route := api.Row{K: nodeOf(o.B, o.A), V: uint64(o.C)}
	at, there := seek(l, route.K)
	if there {
		was := l[at]
		l[at] = route
		return l, tell(was)
	}
	if len(l) == c.Cap {
		return l, api.Res{Code: api.ErrFull}
	}
	return slices.Insert(l, at, route), api.Res{}
}

func remove(l []api.Row, o api.Op) ([]api.Row, api.Res) {
	at, there := seek(l, nodeOf(o.B, o.A))
	if !there {
		return l, api.Res{Code: api.ErrNone}
	}
	was := l[at]
	return slices.Delete(l, at, at+1), tell(was)
}

// lookup goes up from the key's own node: the nodes above it are the prefixes that match it, from the longest one to that of no bits.
func lookup(c api.Config, l []api.Row, o api.Op) api.Res {
	key := int(nodeOf(uint32(c.Bits), o.A))
	for up := range c.Bits + 1 {
		// No error can come: the key's node is as deep as the key has bits.
		prefix, _ := rank.Over(key, up)
		if at, there := seek(l, uint64(prefix)); there {
			return tell(l[at])
		}
	}
	return api.Res{Code: api.ErrNone}
}

// seek says where the node's row stands, or would.
func seek(l []api.Row, node uint64) (int, bool) {
	return slices.BinarySearchFunc(l, node, func(r api.Row, n uint64) int { return cmp.Compare(r.K, n) })
}

// tell answers a word, so that a hop of 0 is not the 0 of none.
func tell(route api.Row) api.Res {
	return api.Res{V: uint32(route.V) + 1}
}
