package gate

import (
	"bascule/api"
	"bascule/op"
)

// Where a frame is, by the chapter's numbers.
const (
	pcRead  = 0
	pcWrite = 2
	pcDone  = 20
	pcNone  = 21
	pcFull  = 22
)

// What a frame's H says.
const (
	noRoomYet = 0
	roomAtJ   = 1
)

// check leans on op.Check, which tells of a config that may not be ahead of all else.
func check(c api.Config, f api.Frame) api.Errno {
	e := op.Check(c, opOf(f))
	if e == api.ErrConf || c.Object != api.ObjAccess {
		return api.ErrConf
	}
	if e != api.OK || !mayBeAt(f) || !registersMayBe(c, f) {
		return api.ErrArg
	}
	return api.OK
}

// opOf has a third number of OpAdd alone: to the others Y is a register that nobody asks.
func opOf(f api.Frame) api.Op {
	o := api.Op{Kind: f.Kind, A: f.A, B: f.B}
	if f.Kind == api.OpAdd {
		o.C = f.Y
	}
	return o
}

// mayBeAt says whether the chapter's table has the frame's Pc for its kind, which is one of rules.
func mayBeAt(f api.Frame) bool {
	switch f.Pc {
	case pcRead, pcDone:
		return true
	case pcWrite:
		return f.Kind != api.OpCheck
	case pcNone:
		return f.Kind == api.OpDrop
	case pcFull:
		return f.Kind == api.OpAdd
	}
	return false
}

func registersMayBe(c api.Config, f api.Frame) bool {
	return int(f.I) < c.Cap && int(f.J) < c.Cap && f.H <= roomAtJ
}
