package tree

import (
	"slices"

	"bascule/api"
	"bascule/op"
)

// Where a frame is, by the chapter's numbers.
const (
	pcHeader    = 0
	pcSeek      = 1
	pcFloor     = 3
	pcReplace   = 4
	pcRoomRead  = 5
	pcRoomWrite = 6
	pcInsert    = 7
	pcCount     = 8
	pcLast      = 9
	pcItem      = 11
	pcClear     = 12
	pcGapRead   = 13
	pcGapWrite  = 14
	pcEmpty     = 15
	pcGive      = 16
	pcScan      = 17
	pcOver      = 20
	pcNone      = 21
	pcFull      = 22
	pcWord      = 23
	pcPut       = 24
	pcDeleted   = 25
)

// check leans on op.Check, which tells of a config that may not be ahead of all else. It leaves to actOf whether the act's cell is there.
func check(c api.Config, f api.Frame) api.Errno {
	e := op.Check(c, opOf(f))
	if e == api.ErrConf || c.Object != api.ObjIndex {
		return api.ErrConf
	}
	if e != api.OK || !slices.Contains(kindsAt(f.Pc), f.Kind) || !registersMayBe(shapeOf(c), f) {
		return api.ErrArg
	}
	return api.OK
}

// opOf has no second number of OpDelete, which keeps its word there.
func opOf(f api.Frame) api.Op {
	if f.Kind == api.OpDelete {
		return api.Op{Kind: f.Kind, A: f.A}
	}
	return api.Op{Kind: f.Kind, A: f.A, B: f.B}
}

func registersMayBe(s shape, f api.Frame) bool {
	return int(f.N) <= s.most && int(f.P) <= s.most && int(f.J) <= s.chunk && int(f.H) <= s.top()
}

// kindsAt has the kinds that the chapter's table names by a Pc: none, where it has no such row.
func kindsAt(pc uint8) []uint8 {
	switch pc {
	case pcHeader, pcSeek:
		return []uint8{api.OpPut, api.OpDelete, api.OpGet, api.OpFloor, api.OpScan}
	case pcFloor:
		return []uint8{api.OpFloor}
	case pcReplace, pcRoomRead, pcRoomWrite, pcInsert, pcFull, pcPut:
		return []uint8{api.OpPut}
	case pcCount, pcLast, pcItem:
		return []uint8{api.OpPut, api.OpDelete}
	case pcClear, pcGapRead, pcGapWrite, pcEmpty, pcDeleted:
		return []uint8{api.OpDelete}
	case pcGive, pcScan:
		return []uint8{api.OpScan}
	case pcOver:
		return []uint8{api.OpFloor, api.OpScan}
	case pcNone:
		return []uint8{api.OpGet, api.OpFloor, api.OpDelete}
	case pcWord:
		return []uint8{api.OpGet, api.OpPut}
	}
	return nil
}
