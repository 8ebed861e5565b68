package table

import (
	"bascule/api"
	"bascule/part"
	"bascule/rank"
)

func isOfRoutes(c api.Config) bool {
	return part.Check(c) == api.OK && c.Object == api.ObjRoute
}

// areRoutes asks for a config that may be. Each node rises above the one ahead of it, the first one above 0, which is no node.
func areRoutes(c api.Config, l []api.Row) bool {
	if len(l) > c.Cap {
		return false
	}
	ahead, nodes := uint64(0), uint64(1)<<(c.Bits+1)
	for _, r := range l {
		if r.K <= ahead || r.K >= nodes || r.V > api.MaxValue {
			return false
		}
		ahead = r.K
	}
	return true
}

// nodeOf asks for a prefix of an operation that fits: then no error can come.
func nodeOf(length, number uint32) uint64 {
	n, _ := rank.Node(int(length), int(number))
	return uint64(n)
}
