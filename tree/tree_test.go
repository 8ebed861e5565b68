package tree_test

import (
	"math"
	"slices"
	"testing"

	"bascule/api"
	"bascule/op"
	"bascule/part"
	"bascule/reg"
	"bascule/tree"
)

// checkFrame asks both calls of any frame of a config that may be, of all cells.
func checkFrame(t *testing.T, c api.Config, f api.Frame, cells []api.Cell) {
	t.Helper()
	if !mayBe(c, f) {
		checkRefused(t, c, f, api.ErrArg)
		return
	}
	if a, e := tree.Next(c, f); e != api.OK || a != wantAct(c, f) {
		t.Fatalf("Next of Cap %d, Node %d, %+v = %+v, %d, not %+v", c.Cap, c.Node, f, a, e, wantAct(c, f))
	}
	for _, l := range cells {
		want := wantAfter(c, f, l)
		if g, r, told, e := tree.After(c, f, l); e != api.OK || g != want.f || told != want.told || r != want.wantRow() {
			t.Fatalf("After of Cap %d, Node %d, Chunk %d, %+v, %v = %+v, %v, %v, %d, not %+v", c.Cap, c.Node, c.Chunk, f, l, g, r, told, e, want)
		}
	}
}

// checkRefused asks both calls: they answer the error, and nothing beside it.
func checkRefused(t *testing.T, c api.Config, f api.Frame, want api.Errno) {
	t.Helper()
	if a, e := tree.Next(c, f); e != want || a != (api.Act{}) {
		t.Fatalf("Next(%+v, %+v) = %+v, %d, not %d", c, f, a, e, want)
	}
	for _, l := range []api.Cell{{}, {A: 9, B: 2}} {
		if g, r, told, e := tree.After(c, f, l); e != want || g != (api.Frame{}) || r != (api.Row{}) || told {
			t.Fatalf("After(%+v, %+v, %v) = %+v, %v, %v, %d, not %d", c, f, l, g, r, told, e, want)
		}
	}
}

// someCells stand around all edges that the table asks for, and have bits that are cut off, or count for nothing.
func someCells(c api.Config, f api.Frame) []api.Cell {
	a, b := uint64(f.A), uint64(f.B)
	return []api.Cell{
		{},
		{Tag: 9, A: 1, B: 7, C: 9},
		{A: a - 1, B: 7},
		{A: a, B: maxValue},
		{A: a + 1, B: math.MaxUint32},
		{A: b, B: 3},
		{A: b + 1, B: 3},
		{A: uint64(c.Cap) - 1},
		{A: uint64(c.Cap) + 1, B: 1},
		{A: 1 << 32, B: 1 << 32},
		{A: 1<<32 + a, B: 1<<32 + 5},
		{Tag: math.MaxUint64, A: math.MaxUint64, B: math.MaxUint64, C: math.MaxUint64},
	}
}

// starts are frames of nothing but operations that fit, and registers that may be anything.
var starts = []api.Frame{
	{Kind: 4, A: 5, B: 50, X: 6, Y: 60},
	{Kind: 4, A: 0, B: maxValue, X: math.MaxUint32, Y: math.MaxUint32},
	{Kind: 5, A: 5, X: 5, Y: 60},
	{Kind: 5, A: maxValue, B: 1 << 31, X: math.MaxUint32, Y: math.MaxUint32},
	{Kind: 6, A: 5, X: 4, Y: 60},
	{Kind: 6, A: maxValue, Y: math.MaxUint32},
	{Kind: 7, A: 5, X: 4, Y: 60},
	{Kind: 7, A: 0},
	{Kind: 8, A: 5, B: 9, X: 4, Y: 60},
	{Kind: 8, A: 9, B: 5},
	{Kind: 8, A: 0, B: maxValue, X: math.MaxUint32},
}

// everyFrame goes through all frames of a start's Pcs whose registers may be, and some that are one too great.
func everyFrame(c api.Config, start api.Frame, do func(f api.Frame)) {
	f := start
	for _, f.Pc = range pcs(f.Kind) {
		for f.N = range uint8(c.Cap + 2) {
			for f.P = range uint8(c.Cap + 2) {
				for f.H = range uint8(topOf(c) + 2) {
					for f.I = range uint8(c.Cap + 2) {
						for f.J = range uint8(c.Chunk + 2) {
							do(f)
						}
					}
				}
			}
		}
	}
}

// P13.1: every row of the table, of all registers, of small sizes, held against the chapter's words.
func TestEveryFrame(t *testing.T) {
	for _, c := range []api.Config{sized(1, 2, 1), sized(1, 4, 2), sized(2, 2, 1), sized(3, 2, 1), sized(3, 3, 2), sized(4, 3, 1), sized(5, 2, 1), sized(5, 4, 1)} {
		for _, start := range starts {
			cells := someCells(c, start)
			everyFrame(c, start, func(f api.Frame) { checkFrame(t, c, f, cells) })
		}
	}
}

// next is a number behind another one, in an order that looks like none.
func next(n uint64) uint64 {
	return n*6364136223846793005 + 1442695040888963407
}

// P13.1: frames of all sizes, of registers that are drawn, mostly from what may be.
func TestDrawnFrames(t *testing.T) {
	n, may := uint64(13), 0
	below := func(many int) uint8 {
		n = next(n)
		return uint8(n >> 33 % uint64(many))
	}
	for most := 1; most <= 32; most++ {
		for wide := 2; wide <= 4; wide++ {
			c := sized(most, wide, 1+most%8)
			for _, start := range starts {
				cells := someCells(c, start)
				for range 60 {
					f := start
					f.Pc = pcs(f.Kind)[below(len(pcs(f.Kind)))]
					f.N, f.P, f.J, f.H = below(most+2), below(most+2), below(c.Chunk+2), below(topOf(c)+2)
					f.I = below(itemsOf(most, wide, min(int(f.H), topOf(c))) + 2)
					checkFrame(t, c, f, cells)
					if mayBe(c, f) {
						may++
					}
				}
			}
		}
	}
	if may < 10000 {
		t.Errorf("just %d of the frames may be", may)
	}
}

// seven has three levels: the entries at 1 to 7, items for them at 8 to 11, and items for those at 12 and 13.
var seven = sized(7, 2, 2)

// P13.1: acts by hand.
func TestActsByHand(t *testing.T) {
	read := func(at int) api.Act { return api.Act{Kind: api.ActRead, At: at} }
	write := func(at int, a, b uint64) api.Act { return api.Act{Kind: api.ActWrite, At: at, A: a, B: b} }
	done := func(code api.Errno, v uint32) api.Act { return api.Act{Kind: api.ActDone, Code: code, V: v} }
	for _, x := range []struct {
		f    api.Frame
		want api.Act
	}{
		{api.Frame{Kind: api.OpPut, H: 2, I: 255}, read(0)},
		{api.Frame{Kind: api.OpGet, Pc: 1, H: 2}, read(12)},
		{api.Frame{Kind: api.OpGet, Pc: 1, H: 2, I: 1}, read(13)},
		{api.Frame{Kind: api.OpFloor, Pc: 1, H: 1, I: 3}, read(11)},
		{api.Frame{Kind: api.OpScan, Pc: 1, I: 6}, read(7)},
		{api.Frame{Kind: api.OpFloor, Pc: 3, P: 1}, read(1)},
		{api.Frame{Kind: api.OpFloor, Pc: 3, P: 7}, read(7)},
		{api.Frame{Kind: api.OpPut, A: 9, B: 90, Pc: 4}, write(1, 9, 90)},
		{api.Frame{Kind: api.OpPut, Pc: 5, I: 7}, read(7)},
		{api.Frame{Kind: api.OpPut, Pc: 6, I: 6, X: 4, Y: 40}, write(7, 4, 40)},
		{api.Frame{Kind: api.OpPut, A: 9, B: 90, Pc: 7, P: 6}, write(7, 9, 90)},
		{api.Frame{Kind: api.OpDelete, Pc: 8, N: 7}, write(0, 7, 0)},
		{api.Frame{Kind: api.OpPut, Pc: 9, H: 1, I: 3, N: 7}, read(7)},
		{api.Frame{Kind: api.OpPut, Pc: 9, H: 1, I: 2, N: 7}, read(6)},
		{api.Frame{Kind: api.OpPut, Pc: 9, H: 1, I: 2, N: 5}, read(5)},
		{api.Frame{Kind: api.OpPut, Pc: 9, H: 2, I: 0, N: 5}, read(9)},
		{api.Frame{Kind: api.OpPut, Pc: 9, H: 2, I: 1, N: 5}, read(10)},
		{api.Frame{Kind: api.OpDelete, Pc: 11, H: 2, I: 1, N: 5, X: 9, Y: 90}, write(13, 9, 0)},
		{api.Frame{Kind: api.OpDelete, Pc: 12, H: 1, N: 6, X: 9}, write(11, 0, 0)},
		{api.Frame{Kind: api.OpDelete, Pc: 12, H: 2, N: 4}, write(13, 0, 0)},
		{api.Frame{Kind: api.OpDelete, Pc: 12, H: 1}, write(8, 0, 0)},
		{api.Frame{Kind: api.OpDelete, Pc: 13, I: 6}, read(7)},
		{api.Frame{Kind: api.OpDelete, Pc: 14, I: 7, X: 4, Y: 40}, write(7, 4, 40)},
		{api.Frame{Kind: api.OpDelete, Pc: 15, N: 7, X: 4, Y: 40}, write(7, 0, 0)},
		{api.Frame{Kind: api.OpScan, Pc: 16, J: 2, P: 7}, api.Act{Kind: api.ActGive}},
		{api.Frame{Kind: api.OpScan, Pc: 17, P: 3, I: 5}, read(4)},
		{api.Frame{Kind: api.OpFloor, Pc: 20, Y: 5}, done(api.OK, 0)},
		{api.Frame{Kind: api.OpScan, B: 5, Pc: 20, Y: 5}, done(api.OK, 0)},
		{api.Frame{Kind: api.OpGet, Pc: 21, Y: 5}, done(api.ErrNone, 0)},
		{api.Frame{Kind: api.OpPut, B: 5, Pc: 22, Y: 5}, done(api.ErrFull, 0)},
		{api.Frame{Kind: api.OpGet, Pc: 23, Y: maxValue}, done(api.OK, 1<<31)},
		{api.Frame{Kind: api.OpPut, B: 5, Pc: 23, Y: math.MaxUint32}, done(api.OK, 0)},
		{api.Frame{Kind: api.OpPut, B: 5, Pc: 24, Y: 5}, done(api.OK, 0)},
		{api.Frame{Kind: api.OpDelete, B: math.MaxUint32, Pc: 25, Y: 5}, done(api.OK, math.MaxUint32)},
	} {
		if a, e := tree.Next(seven, x.f); e != api.OK || a != x.want {
			t.Errorf("Next(%+v) = %+v, %d, not %+v", x.f, a, e, x.want)
		}
	}
}

// P13.1: what becomes of frames, by hand: where the table branches.
func TestFramesByHand(t *testing.T) {
	put := func(f api.Frame) api.Frame { f.Kind, f.A, f.B = api.OpPut, 5, 50; return f }
	out := func(f api.Frame) api.Frame { f.Kind, f.A = api.OpDelete, 5; return f }
	get := func(f api.Frame) api.Frame { f.Kind, f.A = api.OpGet, 5; return f }
	floor := func(f api.Frame) api.Frame { f.Kind, f.A = api.OpFloor, 5; return f }
	scan := func(f api.Frame) api.Frame { f.Kind, f.A, f.B = api.OpScan, 5, 9; return f }
	five, six, four := api.Cell{A: 5, B: 51}, api.Cell{A: 6, B: 61}, api.Cell{A: 4, B: 41}
	for _, x := range []struct {
		of   func(api.Frame) api.Frame
		f    api.Frame
		l    api.Cell
		want api.Frame
		told bool
	}{
		{get, api.Frame{I: 3}, api.Cell{A: 3}, api.Frame{Pc: 1, H: 2, N: 3}, false},
		{get, api.Frame{I: 3}, api.Cell{A: 8}, api.Frame{Pc: 1, H: 2, N: 7}, false},
		{get, api.Frame{I: 3}, api.Cell{A: 1 << 32}, api.Frame{Pc: 1, H: 2, N: 7}, false},
		{get, api.Frame{N: 3, P: 3}, api.Cell{}, api.Frame{Pc: 21}, false},
		{out, api.Frame{H: 1, I: 2}, api.Cell{}, api.Frame{Pc: 21, H: 1, I: 2}, false},
		{floor, api.Frame{}, api.Cell{}, api.Frame{Pc: 21}, false},
		{scan, api.Frame{}, api.Cell{}, api.Frame{Pc: 20}, false},
		{put, api.Frame{}, api.Cell{}, api.Frame{Pc: 7}, false},
		{get, api.Frame{Pc: 1, H: 2, I: 1, N: 7}, five, api.Frame{Pc: 1, H: 1, I: 2, N: 7}, false},
		{get, api.Frame{Pc: 1, H: 2, I: 0, N: 7}, four, api.Frame{Pc: 1, H: 2, I: 1, N: 7}, false},
		{get, api.Frame{Pc: 1, H: 2, I: 0, N: 4}, four, api.Frame{Pc: 21, H: 2, N: 4, P: 4}, false},
		{get, api.Frame{Pc: 1, H: 1, I: 1, N: 7}, four, api.Frame{Pc: 21, H: 1, I: 1, N: 7, P: 7}, false},
		{get, api.Frame{Pc: 1, I: 4, N: 7}, five, api.Frame{Pc: 23, I: 4, N: 7, P: 4, X: 5, Y: 51}, false},
		{get, api.Frame{Pc: 1, I: 4, N: 7}, six, api.Frame{Pc: 21, I: 4, N: 7, P: 4, X: 6, Y: 61}, false},
		{get, api.Frame{Pc: 1, I: 4, N: 7}, api.Cell{A: 1<<32 + 5, B: 1<<32 + 51}, api.Frame{Pc: 23, I: 4, N: 7, P: 4, X: 5, Y: 51}, false},
		{floor, api.Frame{Pc: 1, I: 4, N: 7}, five, api.Frame{Pc: 20, I: 4, N: 7, P: 4, X: 5, Y: 51}, true},
		{floor, api.Frame{Pc: 1, I: 4, N: 7}, six, api.Frame{Pc: 3, I: 4, N: 7, P: 4, X: 6, Y: 61}, false},
		{floor, api.Frame{Pc: 1, I: 0, N: 7, P: 2}, six, api.Frame{Pc: 21, N: 7, X: 6, Y: 61}, false},
		{floor, api.Frame{Pc: 1, I: 1, N: 2}, four, api.Frame{Pc: 3, I: 1, N: 2, P: 2}, false},
		{scan, api.Frame{Pc: 1, I: 4, N: 7}, six, api.Frame{Pc: 17, I: 4, J: 1, N: 7, P: 5, X: 6, Y: 61}, true},
		{scan, api.Frame{Pc: 1, I: 6, N: 7}, six, api.Frame{Pc: 20, I: 6, J: 1, N: 7, P: 6, X: 6, Y: 61}, true},
		{scan, api.Frame{Pc: 1, I: 4, N: 7}, api.Cell{A: 10}, api.Frame{Pc: 20, I: 4, N: 7, P: 4, X: 10}, false},
		{put, api.Frame{Pc: 1, I: 4, N: 7}, five, api.Frame{Pc: 4, I: 4, N: 7, P: 4, X: 5, Y: 51}, false},
		{put, api.Frame{Pc: 1, I: 4, N: 7}, six, api.Frame{Pc: 22, I: 4, N: 7, P: 4, X: 6, Y: 61}, false},
		{put, api.Frame{Pc: 1, I: 4, N: 6}, six, api.Frame{Pc: 5, I: 6, N: 6, P: 4, X: 6, Y: 61}, false},
		{put, api.Frame{Pc: 1, I: 5, N: 6}, four, api.Frame{Pc: 7, I: 5, N: 6, P: 6}, false},
		{out, api.Frame{Pc: 1, I: 4, N: 7}, five, api.Frame{Pc: 13, I: 5, N: 7, P: 4, X: 5, Y: 51}, false},
		{out, api.Frame{Pc: 1, I: 6, N: 7}, five, api.Frame{Pc: 15, I: 6, N: 7, P: 6, X: 5, Y: 51}, false},
		{out, api.Frame{Pc: 1, I: 4, N: 7}, six, api.Frame{Pc: 21, I: 4, N: 7, P: 4, X: 6, Y: 61}, false},
		{floor, api.Frame{Pc: 3, P: 2}, four, api.Frame{Pc: 20, P: 2, X: 4, Y: 41}, true},
		{put, api.Frame{Pc: 4, P: 2, Y: 41}, six, api.Frame{Pc: 23, P: 2, Y: 41}, false},
		{put, api.Frame{Pc: 5, I: 2}, six, api.Frame{Pc: 6, I: 2, X: 6, Y: 61}, false},
		{put, api.Frame{Pc: 6, I: 3, P: 1}, six, api.Frame{Pc: 5, I: 2, P: 1}, false},
		{put, api.Frame{Pc: 6, I: 2, P: 1}, six, api.Frame{Pc: 7, I: 1, P: 1}, false},
		{put, api.Frame{Pc: 7, N: 6, P: 1}, six, api.Frame{Pc: 8, N: 7, P: 1}, false},
		{put, api.Frame{Pc: 8, H: 2, N: 7, P: 5}, six, api.Frame{Pc: 9, H: 1, I: 2, N: 7, P: 5}, false},
		{put, api.Frame{Pc: 8, N: 2, P: 5}, six, api.Frame{Pc: 24, H: 2, I: 1, N: 2, P: 5}, false},
		{put, api.Frame{Pc: 9, H: 1, N: 1}, six, api.Frame{Pc: 11, H: 1, N: 1, X: 6, Y: 61}, false},
		{put, api.Frame{Pc: 11, H: 1, I: 2, N: 7, P: 5}, six, api.Frame{Pc: 9, H: 1, I: 3, N: 7, P: 5}, false},
		{put, api.Frame{Pc: 11, H: 1, I: 3, N: 7, P: 5}, six, api.Frame{Pc: 9, H: 2, I: 1, N: 7, P: 5}, false},
		{put, api.Frame{Pc: 11, H: 2, I: 1, N: 7, P: 5}, six, api.Frame{Pc: 24, H: 2, I: 2, N: 7, P: 5}, false},
		{out, api.Frame{Pc: 8, N: 6, P: 6}, six, api.Frame{Pc: 12, H: 1, I: 3, N: 6, P: 6}, false},
		{out, api.Frame{Pc: 8, N: 5, P: 5}, six, api.Frame{Pc: 9, H: 1, I: 2, N: 5, P: 5}, false},
		{out, api.Frame{Pc: 8, N: 7, P: 7}, six, api.Frame{Pc: 9, H: 1, I: 3, N: 7, P: 7}, false},
		{out, api.Frame{Pc: 11, H: 1, I: 2, N: 6, P: 5}, six, api.Frame{Pc: 12, H: 1, I: 3, N: 6, P: 5}, false},
		{out, api.Frame{Pc: 11, H: 1, I: 2, N: 5, P: 5}, six, api.Frame{Pc: 9, H: 2, I: 1, N: 5, P: 5}, false},
		{out, api.Frame{Pc: 11, H: 2, I: 1, N: 5, P: 5}, six, api.Frame{Pc: 25, H: 2, I: 2, N: 5, P: 5}, false},
		{out, api.Frame{Pc: 12, H: 1, I: 2, N: 4, P: 4}, six, api.Frame{Pc: 12, H: 2, I: 1, N: 4, P: 4}, false},
		{out, api.Frame{Pc: 12, H: 2, I: 1, N: 4, P: 4}, six, api.Frame{Pc: 25, H: 2, I: 1, N: 4, P: 4}, false},
		{out, api.Frame{Pc: 12, H: 1, N: 0}, six, api.Frame{Pc: 12, H: 2}, false},
		{out, api.Frame{Pc: 13, I: 2}, six, api.Frame{Pc: 14, I: 2, X: 6, Y: 61}, false},
		{out, api.Frame{Pc: 14, I: 2, N: 4}, six, api.Frame{Pc: 13, I: 3, N: 4}, false},
		{out, api.Frame{Pc: 14, I: 3, N: 4}, six, api.Frame{Pc: 15, I: 4, N: 4}, false},
		{out, api.Frame{Pc: 15, N: 4, P: 1}, six, api.Frame{Pc: 8, N: 3, P: 1}, false},
		{scan, api.Frame{Pc: 16, J: 2, N: 4, P: 1}, six, api.Frame{Pc: 17, N: 4, P: 2}, false},
		{scan, api.Frame{Pc: 16, J: 2, N: 4, P: 3}, six, api.Frame{Pc: 20, N: 4, P: 3}, false},
		{scan, api.Frame{Pc: 17, J: 1, N: 4, P: 1}, six, api.Frame{Pc: 16, J: 2, N: 4, P: 1, X: 6, Y: 61}, true},
		{scan, api.Frame{Pc: 17, N: 4, P: 1}, api.Cell{A: 9}, api.Frame{Pc: 17, J: 1, N: 4, P: 2, X: 9}, true},
		{scan, api.Frame{Pc: 17, N: 4, P: 1}, api.Cell{A: 10}, api.Frame{Pc: 20, N: 4, P: 1, X: 10}, false},
		{scan, api.Frame{Pc: 20, X: 3}, six, api.Frame{Pc: 20, X: 3}, false},
		{get, api.Frame{Pc: 21, X: 3}, six, api.Frame{Pc: 21, X: 3}, false},
		{put, api.Frame{Pc: 22, X: 3}, six, api.Frame{Pc: 22, X: 3}, false},
		{put, api.Frame{Pc: 23, X: 3}, six, api.Frame{Pc: 23, X: 3}, false},
		{put, api.Frame{Pc: 24, X: 3}, six, api.Frame{Pc: 24, X: 3}, false},
		{out, api.Frame{Pc: 25, X: 3}, six, api.Frame{Pc: 25, X: 3}, false},
	} {
		f, want := x.of(x.f), x.of(x.want)
		if x.f.Pc == 1 && f.Kind == api.OpDelete && x.l == five {
			want.B = 52
		}
		g, r, told, e := tree.After(seven, f, x.l)
		if e != api.OK || g != want || told != x.told {
			t.Errorf("After(%+v, %v) = %+v, %v, %d, not %+v, %v", f, x.l, g, told, e, want, x.told)
		}
		if row := (api.Row{K: uint64(want.X), V: uint64(want.Y)}); told && r != row || !told && r != (api.Row{}) {
			t.Errorf("After(%+v, %v) tells %v, %v", f, x.l, r, told)
		}
	}
}

// P13.1: OpDelete keeps its word in B, where it takes no heed of what stood there.
func TestDeletesWord(t *testing.T) {
	for _, value := range []uint64{0, 1, maxValue, math.MaxUint32, 1 << 32} {
		for _, b := range []uint32{0, 7, math.MaxUint32} {
			f := api.Frame{Kind: api.OpDelete, A: 5, B: b, Pc: 1, N: 1}
			g, _, _, e := tree.After(seven, f, api.Cell{A: 5, B: value})
			if e != api.OK || g.B != uint32(value+1) || g.Pc != 15 {
				t.Errorf("After(%+v) of the value %d: %+v, %d", f, value, g, e)
			}
		}
	}
}

// P13.1: registers that may not be, by hand: those that lead an act beyond its level's cells, and those that are too great for all acts.
func TestRegistersThatMayNotBe(t *testing.T) {
	for _, x := range []struct {
		f    api.Frame
		want api.Errno
	}{
		{api.Frame{Kind: api.OpGet, Pc: 1, I: 7}, api.ErrArg},
		{api.Frame{Kind: api.OpGet, Pc: 1, H: 1, I: 4}, api.ErrArg},
		{api.Frame{Kind: api.OpGet, Pc: 1, H: 2, I: 2}, api.ErrArg},
		{api.Frame{Kind: api.OpFloor, Pc: 3}, api.ErrArg},
		{api.Frame{Kind: api.OpPut, Pc: 4, P: 7}, api.ErrArg},
		{api.Frame{Kind: api.OpPut, Pc: 5}, api.ErrArg},
		{api.Frame{Kind: api.OpPut, Pc: 5, I: 8}, api.ErrArg},
		{api.Frame{Kind: api.OpPut, Pc: 6}, api.ErrArg},
		{api.Frame{Kind: api.OpPut, Pc: 6, I: 7}, api.ErrArg},
		{api.Frame{Kind: api.OpPut, Pc: 7, P: 7}, api.ErrArg},
		{api.Frame{Kind: api.OpPut, Pc: 9, N: 7}, api.ErrArg},
		{api.Frame{Kind: api.OpPut, Pc: 9, H: 1, I: 2, N: 4}, api.ErrArg},
		{api.Frame{Kind: api.OpPut, Pc: 9, H: 2, I: 1, N: 4}, api.ErrArg},
		{api.Frame{Kind: api.OpPut, Pc: 9, H: 1}, api.ErrArg},
		{api.Frame{Kind: api.OpPut, Pc: 11, N: 7}, api.ErrArg},
		{api.Frame{Kind: api.OpDelete, Pc: 11, H: 1, I: 2, N: 4}, api.ErrArg},
		{api.Frame{Kind: api.OpDelete, Pc: 11, H: 2, I: 255, N: 7}, api.ErrArg},
		{api.Frame{Kind: api.OpDelete, Pc: 12, N: 3}, api.ErrArg},
		{api.Frame{Kind: api.OpDelete, Pc: 12, H: 1, N: 7}, api.ErrArg},
		{api.Frame{Kind: api.OpDelete, Pc: 12, H: 2, N: 5}, api.ErrArg},
		{api.Frame{Kind: api.OpDelete, Pc: 13, I: 7}, api.ErrArg},
		{api.Frame{Kind: api.OpDelete, Pc: 13}, api.OK},
		{api.Frame{Kind: api.OpDelete, Pc: 14}, api.ErrArg},
		{api.Frame{Kind: api.OpDelete, Pc: 14, I: 8}, api.ErrArg},
		{api.Frame{Kind: api.OpDelete, Pc: 15}, api.ErrArg},
		{api.Frame{Kind: api.OpScan, Pc: 17, P: 7}, api.ErrArg},
		{api.Frame{Kind: api.OpPut, Pc: 8, P: 8}, api.ErrArg},
		{api.Frame{Kind: api.OpPut, Pc: 8, N: 8}, api.ErrArg},
		{api.Frame{Kind: api.OpPut, Pc: 8, H: 3}, api.ErrArg},
		{api.Frame{Kind: api.OpScan, Pc: 16, J: 3}, api.ErrArg},
		{api.Frame{Kind: api.OpGet, N: 255}, api.ErrArg},
		{api.Frame{Kind: api.OpGet, P: 255}, api.ErrArg},
		{api.Frame{Kind: api.OpGet, J: 255}, api.ErrArg},
		{api.Frame{Kind: api.OpGet, H: 255}, api.ErrArg},
		{api.Frame{Kind: api.OpGet, I: 255, N: 7, P: 7, J: 2, H: 2}, api.OK},
	} {
		if _, e := tree.Next(seven, x.f); e != x.want {
			t.Errorf("Next(%+v): %d, not %d", x.f, e, x.want)
		}
		if x.want != api.OK {
			checkRefused(t, seven, x.f, x.want)
		}
	}
}

// P13.1, P1: of each kind just those Pcs may be that the table has for it, where all registers may be.
func TestPcs(t *testing.T) {
	for _, c := range []api.Config{example, seven, sized(32, 2, 8)} {
		for _, kind := range kinds {
			for pc := range 256 {
				f := api.Frame{Kind: kind, A: 5, Pc: uint8(pc), I: 1, N: 1, P: 1, H: 1}
				if pc == 9 || pc == 11 {
					f.I = 0
				}
				if !slices.Contains(pcs(kind), f.Pc) {
					checkRefused(t, c, f, api.ErrArg)
				} else if _, e := tree.Next(c, f); e != api.OK {
					t.Errorf("Next(%+v): %d", f, e)
				}
			}
		}
	}
}

// P13.1, P1: operations that do not fit, also where their Pc may be, and such as are of no object, or of another one.
func TestOperationsThatMayNotBe(t *testing.T) {
	const far = math.MaxUint32
	bad := []api.Frame{
		{Kind: 4, A: 1 << 31}, {Kind: 4, B: 1 << 31}, {Kind: 4, A: far, B: far}, {Kind: 5, A: 1 << 31}, {Kind: 5, A: far, B: 1},
		{Kind: 6, A: 1 << 31}, {Kind: 6, B: 1}, {Kind: 7, A: far}, {Kind: 7, B: 1}, {Kind: 8, A: 1 << 31}, {Kind: 8, B: 1 << 31},
	}
	for kind := range 256 {
		if !slices.Contains(kinds, uint8(kind)) {
			bad = append(bad, api.Frame{Kind: uint8(kind)}, api.Frame{Kind: uint8(kind), A: 1, B: 1}, api.Frame{Kind: uint8(kind), A: far, B: far})
		}
	}
	for _, f := range bad {
		for pc := range 26 {
			f.Pc, f.I, f.P, f.N, f.H = uint8(pc), 1, 1, 1, 1
			checkRefused(t, example, f, api.ErrArg)
			f.I, f.P, f.N, f.H = 0, 0, 0, 0
			checkRefused(t, example, f, api.ErrArg)
		}
	}
}

// badConfigs may not be, or are of other objects.
func badConfigs() []api.Config {
	l := []api.Config{
		{}, {Node: -1}, {Object: api.ObjIndex, Cap: math.MinInt, Node: math.MinInt},
		{Object: api.ObjRoute, Instances: 2, Threads: 1, Kind: api.KindSlots, Bits: 3, Cap: 3, Batch: 1, Limit: 131072},
		{Object: api.ObjAccess, Instances: 2, Threads: 1, Kind: api.KindSlots, Cap: 3, Batch: 1, Limit: 131072},
		{Object: api.ObjConfig, Instances: 2, Threads: 1, Kind: api.KindSlots, Cap: 3, Batch: 1, Limit: 131072},
	}
	for _, put := range []func(c *api.Config){
		func(c *api.Config) { c.Object = 0 },
		func(c *api.Config) { c.Object = 255 },
		func(c *api.Config) { c.Instances = 5 },
		func(c *api.Config) { c.Threads = 0 },
		func(c *api.Config) { c.Kind = 3 },
		func(c *api.Config) { c.Stripes = 1 },
		func(c *api.Config) { c.Bits = 1 },
		func(c *api.Config) { c.Cap = 0 },
		func(c *api.Config) { c.Cap = -1 },
		func(c *api.Config) { c.Cap = 33 },
		func(c *api.Config) { c.Cap = math.MaxInt },
		func(c *api.Config) { c.Node = 0 },
		func(c *api.Config) { c.Node = 1 },
		func(c *api.Config) { c.Node = 5 },
		func(c *api.Config) { c.Node = math.MinInt },
		func(c *api.Config) { c.Chunk = 0 },
		func(c *api.Config) { c.Chunk = 9 },
		func(c *api.Config) { c.Batch = 17 },
		func(c *api.Config) { c.Limit = 131071 },
		func(c *api.Config) { c.Most = 1 },
	} {
		c := example
		put(&c)
		l = append(l, c)
	}
	return l
}

// P13.1, P1: a config that may not be, or is of another object, is told ahead of a frame that may not be, and of that object's own.
func TestBadConfigs(t *testing.T) {
	for _, c := range badConfigs() {
		for kind := range 16 {
			for pc := range 26 {
				f := api.Frame{Kind: uint8(kind), A: 1, B: 1, Pc: uint8(pc)}
				checkRefused(t, c, f, api.ErrConf)
				f.A, f.B, f.I, f.N, f.P, f.H = 0, 0, 1, 1, 1, uint8(pc)
				checkRefused(t, c, f, api.ErrConf)
			}
		}
		checkRefused(t, c, api.Frame{Kind: 255, A: math.MaxUint32, B: math.MaxUint32, Pc: 255, I: 255, J: 255, N: 255, P: 255, H: 255}, api.ErrConf)
	}
}

// P13.1: what a program does hangs on Cap, Node and Chunk alone: other instances, threads, indicators and batches turn nothing.
func TestHangsOnTheObjectAlone(t *testing.T) {
	great := example
	great.Instances, great.Threads, great.Kind, great.Stripes, great.Batch, great.Limit, great.Most = 4, 16, api.KindStripes, 4, 16, 1<<62, 1<<62
	for _, start := range starts {
		cells := someCells(great, start)
		everyFrame(great, start, func(f api.Frame) { checkFrame(t, great, f, cells) })
	}
}

// P13.2 and Rules of DOC.md: nothing is kept: asked backwards, all calls answer what they did.
func TestNothingIsKept(t *testing.T) {
	type answer struct {
		a    api.Act
		g    api.Frame
		r    api.Row
		told bool
		e    api.Errno
	}
	ask := func(c api.Config, f api.Frame) answer {
		a, _ := tree.Next(c, f)
		g, r, told, e := tree.After(c, f, api.Cell{Tag: 5, A: 6, B: 1, C: 4})
		return answer{a, g, r, told, e}
	}
	type asked struct {
		c api.Config
		f api.Frame
		x answer
	}
	var all []asked
	for _, c := range []api.Config{sized(2, 3, 1), example, sized(4, 2, 2)} {
		for _, start := range starts {
			everyFrame(c, start, func(f api.Frame) { all = append(all, asked{c, f, ask(c, f)}) })
		}
	}
	for _, x := range slices.Backward(all) {
		if again := ask(x.c, x.f); again != x.x {
			t.Fatalf("of %+v: %+v, and then %+v", x.f, x.x, again)
		}
	}
}

// P13.3: a frame that starts may be, just if its operation is one of an index, and fits (of OpDelete its B is a register).
func TestWhatStarts(t *testing.T) {
	for kind := range uint8(16) {
		for _, a := range []uint32{0, 1, maxValue, 1 << 31} {
			for _, b := range []uint32{0, 1, maxValue, 1 << 31} {
				o := api.Op{Kind: kind, A: a, B: b}
				_, e := tree.Next(example, reg.Start(o))
				if kind == api.OpDelete {
					o.B = 0
				}
				if (e == api.OK) != (op.Check(example, o) == api.OK) {
					t.Errorf("Next of %v that starts: %d", o, e)
				}
			}
		}
	}
}

// The places that the tests work out themselves are those of a memory.
func TestSizes(t *testing.T) {
	for most := 1; most <= 32; most++ {
		for wide := 2; wide <= 4; wide++ {
			c := sized(most, wide, 1)
			if n, e := part.Size(c); e != api.OK || n != sizeOf(c) {
				t.Errorf("of Cap %d, Node %d an instance has %d cells, not %d", most, wide, n, sizeOf(c))
			}
		}
	}
}
