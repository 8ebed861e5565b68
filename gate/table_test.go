package gate_test

import (
	"math"
	"testing"

	"bascule/api"
	"bascule/gate"
)

// This file has the chapter's table once more, by numbers and in the chapter's order, for what the program is held against.

const maxWho = 65535

// example is the chapter's config.
var example = api.Config{Object: api.ObjAccess, Instances: 2, Threads: 1, Kind: api.KindSlots, Cap: 3, Batch: 1, Limit: 131072}

func sized(most int) api.Config {
	c := example
	c.Cap = most
	return c
}

// kinds are those that the table has, and pcs which Pcs it has for each.
var kinds = []uint8{9, 10, 11}

func pcs(kind uint8) []uint8 {
	return map[uint8][]uint8{9: {0, 2, 20, 22}, 10: {0, 2, 20, 21}, 11: {0, 20}}[kind]
}

// mod is a number's rest, worked out by division.
func mod(n, m uint64) uint64 {
	return n - n/m*m
}

// has and speaks are the chapter's words for a cell.
func has(f api.Frame, l api.Cell) bool {
	return l.A > 0 && l.B == uint64(f.A) && l.C == uint64(f.B)
}

func speaks(f api.Frame, l api.Cell) bool {
	if l.A == 0 || l.B != 0 && l.B != uint64(f.A) {
		return false
	}
	return l.C == 0 || l.C == uint64(f.B)
}

// wantAct is the table's third column.
func wantAct(f api.Frame) api.Act {
	switch [2]uint8{f.Kind, f.Pc} {
	case [2]uint8{9, 0}, [2]uint8{10, 0}, [2]uint8{11, 0}:
		return api.Act{Kind: 1, At: int(f.I)}
	case [2]uint8{9, 2}:
		return api.Act{Kind: 2, At: int(f.J), A: uint64(f.Y), B: uint64(f.A), C: uint64(f.B)}
	case [2]uint8{10, 2}:
		return api.Act{Kind: 2, At: int(f.J)}
	case [2]uint8{9, 22}:
		return api.Act{Kind: 4, Code: 9}
	case [2]uint8{10, 21}:
		return api.Act{Kind: 4, Code: 6}
	}
	return api.Act{Kind: 4, V: f.X}
}

// wantAfter is the table's fourth column.
func wantAfter(c api.Config, f api.Frame, l api.Cell) api.Frame {
	last := int(f.I) == c.Cap-1
	switch [2]uint8{f.Kind, f.Pc} {
	case [2]uint8{9, 0}:
		return addAfter(f, l, last)
	case [2]uint8{10, 0}:
		switch {
		case has(f, l):
			f.X, f.J, f.Pc = uint32(mod(l.A, 1<<32)), f.I, 2
		case last:
			f.Pc = 21
		default:
			f.I++
		}
	case [2]uint8{11, 0}:
		if speaks(f, l) && l.A == 2 {
			f.X, f.Pc = 2, 20
		} else if speaks(f, l) {
			f.X = 1
		}
		if f.Pc != 20 && last {
			f.Pc = 20
		} else if f.Pc != 20 {
			f.I++
		}
	case [2]uint8{9, 2}, [2]uint8{10, 2}:
		f.Pc = 20
	}
	return f
}

// addAfter is of OpAdd that read a cell.
func addAfter(f api.Frame, l api.Cell, last bool) api.Frame {
	if has(f, l) {
		f.X, f.J, f.Pc = uint32(mod(l.A, 1<<32)), f.I, 2
		return f
	}
	if l.A == 0 && f.H == 0 {
		f.J, f.H = f.I, 1
	}
	if !last {
		f.I++
		return f
	}
	f.X, f.Pc = 0, 22
	if f.H == 1 {
		f.Pc = 2
	}
	return f
}

// checkFrame asks both calls of a frame that may be, of all cells.
func checkFrame(t *testing.T, c api.Config, f api.Frame, cells []api.Cell) {
	t.Helper()
	if a, e := gate.Next(c, f); e != api.OK || a != wantAct(f) {
		t.Fatalf("Next of Cap %d, %+v = %+v, %d, not %+v", c.Cap, f, a, e, wantAct(f))
	}
	for _, l := range cells {
		if g, e := gate.After(c, f, l); e != api.OK || g != wantAfter(c, f, l) {
			t.Fatalf("After of Cap %d, %+v, %v = %+v, %d, not %+v", c.Cap, f, l, g, e, wantAfter(c, f, l))
		}
	}
}

// checkRefused asks both calls of a frame that may not be, or of such a config.
func checkRefused(t *testing.T, c api.Config, f api.Frame, want api.Errno) {
	t.Helper()
	if a, e := gate.Next(c, f); e != want || a != (api.Act{}) {
		t.Fatalf("Next(%+v, %+v) = %+v, %d, not %d", c, f, a, e, want)
	}
	for _, l := range []api.Cell{{}, {Tag: 1, A: 1, B: 1, C: 1}} {
		if g, e := gate.After(c, f, l); e != want || g != (api.Frame{}) {
			t.Fatalf("After(%+v, %+v, %v) = %+v, %d, not %d", c, f, l, g, e, want)
		}
	}
}

// someCells are rules of a frame, rules that speak of it, others, none, and such as are so but for bits beyond 32.
func someCells(f api.Frame) []api.Cell {
	var l []api.Cell
	words := func(n uint32) []uint64 {
		return []uint64{0, uint64(n), uint64(n) + 1, 1<<32 + uint64(n), 1 << 32, math.MaxUint64}
	}
	for _, says := range []uint64{0, 1, 2, 3, 1 << 32, 1<<32 + 1, 1<<32 + 2, math.MaxUint64} {
		for _, who := range words(f.A) {
			for _, what := range words(f.B) {
				l = append(l, api.Cell{Tag: says + who, A: says, B: who, C: what})
			}
		}
	}
	return l
}

// everyFrame tells of all frames that may be with the operation of one, its X, and what nobody asks for.
func everyFrame(c api.Config, f api.Frame, tell func(f api.Frame)) {
	for _, pc := range pcs(f.Kind) {
		for i := range uint8(c.Cap) {
			for j := range uint8(c.Cap) {
				for h := range uint8(2) {
					f.Pc, f.I, f.J, f.H = pc, i, j, h
					tell(f)
				}
			}
		}
	}
}
