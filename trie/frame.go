package trie

import (
	"bascule/api"
	"bascule/op"
	"bascule/rank"
)

// check leans on op.Check, which tells of a config that may not be ahead of all else.
func check(c api.Config, f api.Frame) api.Errno {
	e := op.Check(c, opOf(f))
	if e == api.ErrConf || c.Object != api.ObjRoute {
		return api.ErrConf
	}
	if e != api.OK || rowOf(f) == nil || int(f.H) > deepest(c, f) {
		return api.ErrArg
	}
	return api.OK
}

// opOf has a third number of OpInsert alone: to the others Y is a register that nobody asks.
func opOf(f api.Frame) api.Op {
	o := api.Op{Kind: f.Kind, A: f.A, B: f.B}
	if f.Kind == api.OpInsert {
		o.C = f.Y
	}
	return o
}

// deepest is how far down from the root the frame's way goes. It asks for an operation that fits, as do all below.
func deepest(c api.Config, f api.Frame) int {
	if f.Kind == api.OpLookup {
		return c.Bits
	}
	return int(f.B)
}

// lastNode is where the way ends: the prefix's node, or that of the whole key. No error can come: what fits is a prefix.
func lastNode(c api.Config, f api.Frame) int {
	n, _ := rank.Node(deepest(c, f), int(f.A))
	return n
}

// nodeNow is the way's node of the frame's depth. No error can come either: a frame that may be is no deeper than its last node.
func nodeNow(c api.Config, f api.Frame) int {
	n, _ := rank.Over(lastNode(c, f), deepest(c, f)-int(f.H))
	return n
}
