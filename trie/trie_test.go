package trie_test

import (
	"math"
	"slices"
	"testing"

	"bascule/api"
	"bascule/op"
	"bascule/reg"
	"bascule/table"
	"bascule/trie"
)

// example is the chapter's config.
var example = api.Config{Object: api.ObjRoute, Instances: 2, Threads: 1, Kind: api.KindSlots, Bits: 3, Cap: 2, Batch: 1, Limit: 131072}

const maxHop = 2147483647

func sized(bits, most int) api.Config {
	c := example
	c.Bits, c.Cap = bits, most
	return c
}

func insert(number, length, hop uint32) api.Op {
	return api.Op{Kind: api.OpInsert, A: number, B: length, C: hop}
}

func remove(number, length uint32) api.Op {
	return api.Op{Kind: api.OpRemove, A: number, B: length}
}

func lookup(key uint32) api.Op {
	return api.Op{Kind: api.OpLookup, A: key}
}

// fitting has all operations that fit, of a config and some hops.
func fitting(c api.Config, hops ...uint32) []api.Op {
	var l []api.Op
	for length := range uint32(c.Bits) + 1 {
		for number := range uint32(1) << length {
			l = append(l, remove(number, length))
			for _, hop := range hops {
				l = append(l, insert(number, length, hop))
			}
		}
	}
	for key := range uint32(1) << c.Bits {
		l = append(l, lookup(key))
	}
	return l
}

// way has the nodes from the root to that of a number of so many bits, gone down bit by bit: the program divides instead.
func way(number uint32, length int) []int {
	l := []int{1}
	for i := length - 1; i >= 0; i-- {
		l = append(l, 2*l[len(l)-1]+int(number>>i&1))
	}
	return l
}

func wayOf(c api.Config, f api.Frame) []int {
	if f.Kind == api.OpLookup {
		return way(f.A, c.Bits)
	}
	return way(f.A, int(f.B))
}

// pcs are those that the chapter's table has for each kind.
func pcs(kind uint8) []uint8 {
	return map[uint8][]uint8{1: {0, 1, 2, 3, 5, 6, 7}, 2: {0, 2, 3, 6, 8}, 3: {0, 6, 8}}[kind]
}

// mod is a number's rest, worked out by division.
func mod(n, m uint64) uint64 {
	return n - n/m*m
}

// wantAct is the table's third column.
func wantAct(c api.Config, f api.Frame) api.Act {
	way := wayOf(c, f)
	last, now := way[len(way)-1], way[f.H]
	read := func(at int) api.Act { return api.Act{Kind: 1, At: at} }
	write := func(at int, a, b uint64) api.Act { return api.Act{Kind: 2, At: at, A: a, B: mod(b, 64)} }
	switch [2]uint8{f.Kind, f.Pc} {
	case [2]uint8{1, 0}, [2]uint8{2, 0}:
		return read(last)
	case [2]uint8{1, 1}:
		return read(1)
	case [2]uint8{1, 2}, [2]uint8{2, 2}, [2]uint8{3, 0}:
		return read(now)
	case [2]uint8{1, 3}:
		if now == last {
			return write(now, uint64(f.Y)+1, uint64(f.N)+1)
		}
		return write(now, uint64(f.X), uint64(f.N)+1)
	case [2]uint8{2, 3}:
		if now == last {
			return write(now, 0, uint64(f.N)+63)
		}
		return write(now, uint64(f.X), uint64(f.N)+63)
	case [2]uint8{1, 5}:
		return write(last, uint64(f.Y)+1, uint64(f.N))
	case [2]uint8{1, 7}:
		return api.Act{Kind: 4, Code: 9}
	case [2]uint8{2, 8}, [2]uint8{3, 8}:
		return api.Act{Kind: 4, Code: 6}
	}
	return api.Act{Kind: 4, V: f.X}
}

// wantAfter is the table's fourth column.
func wantAfter(c api.Config, f api.Frame, l api.Cell) api.Frame {
	down := int(f.H) < len(wayOf(c, f))-1
	taken := f
	taken.X, taken.N = uint32(mod(l.A, 1<<32)), uint8(mod(l.B, 64))
	to := func(f api.Frame, pc uint8) api.Frame { f.Pc = pc; return f }
	top := func(f api.Frame, pc uint8) api.Frame { f.Pc, f.H = pc, 0; return f }
	switch [2]uint8{f.Kind, f.Pc} {
	case [2]uint8{1, 0}:
		if taken.X != 0 {
			return to(taken, 5)
		}
		return to(taken, 1)
	case [2]uint8{1, 1}:
		if l.B >= uint64(c.Cap) {
			return to(f, 7)
		}
		return top(f, 2)
	case [2]uint8{2, 0}:
		if taken.X == 0 {
			return to(taken, 8)
		}
		return top(taken, 2)
	case [2]uint8{1, 2}, [2]uint8{2, 2}:
		return to(taken, 3)
	case [2]uint8{1, 3}, [2]uint8{2, 3}:
		if !down {
			return to(f, 6)
		}
		f.H++
		return to(f, 2)
	case [2]uint8{1, 5}:
		return to(f, 6)
	case [2]uint8{3, 0}:
		if taken.X != 0 {
			f.X = taken.X
		}
		if down && (l.B >= 2 || l.B == 1 && taken.X == 0) {
			f.H++
			return f
		}
		if f.X != 0 {
			return to(f, 6)
		}
		return to(f, 8)
	}
	return f
}

// checkFrame asks both calls of a frame that may be, of all cells.
func checkFrame(t *testing.T, c api.Config, f api.Frame, cells []api.Cell) {
	t.Helper()
	if a, e := trie.Next(c, f); e != api.OK || a != wantAct(c, f) {
		t.Fatalf("Next of Bits %d, Cap %d, %+v = %+v, %d, not %+v", c.Bits, c.Cap, f, a, e, wantAct(c, f))
	}
	for _, l := range cells {
		if g, e := trie.After(c, f, l); e != api.OK || g != wantAfter(c, f, l) {
			t.Fatalf("After of Bits %d, Cap %d, %+v, %v = %+v, %d, not %+v", c.Bits, c.Cap, f, l, g, e, wantAfter(c, f, l))
		}
	}
}

// checkRefused asks both calls: they answer the error, and nothing beside it.
func checkRefused(t *testing.T, c api.Config, f api.Frame, want api.Errno) {
	t.Helper()
	if a, e := trie.Next(c, f); e != want || a != (api.Act{}) {
		t.Fatalf("Next(%+v, %+v) = %+v, %d, not %d", c, f, a, e, want)
	}
	for _, l := range []api.Cell{{}, {A: 3, B: 2}} {
		if g, e := trie.After(c, f, l); e != want || g != (api.Frame{}) {
			t.Fatalf("After(%+v, %+v, %v) = %+v, %d, not %d", c, f, l, g, e, want)
		}
	}
}

// someCells stand around all edges that the table asks for, and have bits that are cut off, or count for nothing.
func someCells(c api.Config) []api.Cell {
	l := []api.Cell{{Tag: 9, C: 9}, {Tag: math.MaxUint64, A: math.MaxUint64, B: math.MaxUint64, C: math.MaxUint64}}
	for _, a := range []uint64{0, 8, 1 << 31, 1<<32 - 1, 1 << 32, 1<<32 + 1} {
		for _, b := range []uint64{0, 1, 2, uint64(c.Cap) - 1, uint64(c.Cap), uint64(c.Cap) + 1, 63, 64, 65, 1 << 32, 1<<32 + 1} {
			l = append(l, api.Cell{A: a, B: b})
		}
	}
	return l
}

// registers are frames of nothing but registers, at their ends and between; what no program of routes names stands in some.
var registers = []api.Frame{
	{},
	{N: 1, X: 8},
	{N: 62, X: 1 << 31},
	{N: 63, X: math.MaxUint32},
	{I: 255, J: 254, N: 64, P: 253, X: 1},
	{I: 1, J: 2, N: 255, P: 3},
}

// framesOf are those that may be, of an operation.
func framesOf(c api.Config, o api.Op) []api.Frame {
	var l []api.Frame
	start := reg.Start(o)
	for _, pc := range pcs(o.Kind) {
		for h := range wayOf(c, start) {
			for _, f := range registers {
				f.Kind, f.A, f.B, f.Y, f.Pc, f.H = o.Kind, o.A, o.B, o.C, pc, uint8(h)
				if l = append(l, f); o.Kind != api.OpInsert {
					f.Y = math.MaxUint32
					l = append(l, f)
				}
			}
		}
	}
	return l
}

// P12.1: every row of the table, at all depths, of all prefixes and keys of few bits, held against the chapter's words.
func TestEveryFrame(t *testing.T) {
	for bits := 1; bits <= 3; bits++ {
		for _, most := range []int{1, 2, 32} {
			c := sized(bits, most)
			for _, o := range fitting(c, 0, 7, maxHop) {
				for _, f := range framesOf(c, o) {
					checkFrame(t, c, f, someCells(c))
				}
			}
		}
	}
}

// P12.1: of keys of more bits as well, with a few cells.
func TestEveryFrameOfLongKeys(t *testing.T) {
	for bits := 4; bits <= 6; bits++ {
		c := sized(bits, 31)
		for _, o := range fitting(c, 7) {
			for _, f := range framesOf(c, o) {
				checkFrame(t, c, f, []api.Cell{{}, {A: 5, B: 1}, {B: 1}, {A: 1 << 32, B: 31}, {A: 2, B: 66}})
			}
		}
	}
}

// P12.1: acts by hand, of Bits 3 and Cap 2.
func TestActsByHand(t *testing.T) {
	put := api.Frame{Kind: api.OpInsert, A: 5, B: 3, Y: 7, N: 1, X: 4}
	out := api.Frame{Kind: api.OpRemove, A: 2, B: 2, N: 1, X: 4}
	ask := api.Frame{Kind: api.OpLookup, A: 4, X: 4}
	at := func(f api.Frame, pc, h uint8) api.Frame { f.Pc, f.H = pc, h; return f }
	for _, x := range []struct {
		f    api.Frame
		want api.Act
	}{
		{at(put, 0, 0), api.Act{Kind: api.ActRead, At: 13}},
		{at(put, 0, 2), api.Act{Kind: api.ActRead, At: 13}},
		{at(put, 1, 3), api.Act{Kind: api.ActRead, At: 1}},
		{at(put, 2, 0), api.Act{Kind: api.ActRead, At: 1}},
		{at(put, 2, 1), api.Act{Kind: api.ActRead, At: 3}},
		{at(put, 2, 2), api.Act{Kind: api.ActRead, At: 6}},
		{at(put, 2, 3), api.Act{Kind: api.ActRead, At: 13}},
		{at(put, 3, 2), api.Act{Kind: api.ActWrite, At: 6, A: 4, B: 2}},
		{at(put, 3, 3), api.Act{Kind: api.ActWrite, At: 13, A: 8, B: 2}},
		{at(put, 5, 0), api.Act{Kind: api.ActWrite, At: 13, A: 8, B: 1}},
		{at(put, 6, 1), api.Act{Kind: api.ActDone, V: 4}},
		{at(put, 7, 1), api.Act{Kind: api.ActDone, Code: api.ErrFull}},
		{at(out, 0, 1), api.Act{Kind: api.ActRead, At: 6}},
		{at(out, 2, 1), api.Act{Kind: api.ActRead, At: 3}},
		{at(out, 3, 1), api.Act{Kind: api.ActWrite, At: 3, A: 4}},
		{at(out, 3, 2), api.Act{Kind: api.ActWrite, At: 6}},
		{at(out, 6, 0), api.Act{Kind: api.ActDone, V: 4}},
		{at(out, 8, 0), api.Act{Kind: api.ActDone, Code: api.ErrNone}},
		{at(ask, 0, 0), api.Act{Kind: api.ActRead, At: 1}},
		{at(ask, 0, 2), api.Act{Kind: api.ActRead, At: 6}},
		{at(ask, 0, 3), api.Act{Kind: api.ActRead, At: 12}},
		{at(ask, 6, 3), api.Act{Kind: api.ActDone, V: 4}},
		{at(ask, 8, 3), api.Act{Kind: api.ActDone, Code: api.ErrNone}},
		{api.Frame{Kind: api.OpInsert, Pc: 3, Y: maxHop, N: 63}, api.Act{Kind: api.ActWrite, At: 1, A: 1 << 31}},
		{api.Frame{Kind: api.OpInsert, Pc: 5, Y: 0, N: 130}, api.Act{Kind: api.ActWrite, At: 1, A: 1, B: 2}},
		{api.Frame{Kind: api.OpRemove, Pc: 3, X: 9}, api.Act{Kind: api.ActWrite, At: 1, B: 63}},
		{api.Frame{Kind: api.OpRemove, Pc: 3, N: 255}, api.Act{Kind: api.ActWrite, At: 1, B: 62}},
	} {
		if a, e := trie.Next(example, x.f); e != api.OK || a != x.want {
			t.Errorf("Next(%+v) = %+v, %d, not %+v", x.f, a, e, x.want)
		}
	}
}

// P12.1: what becomes of frames, by hand, of Bits 3 and Cap 2: where the table branches, and where a number is cut.
func TestFramesByHand(t *testing.T) {
	put := func(f api.Frame) api.Frame { f.Kind, f.A, f.B, f.Y = api.OpInsert, 2, 2, 7; return f }
	out := func(f api.Frame) api.Frame { f.Kind, f.A, f.B = api.OpRemove, 2, 2; return f }
	ask := func(f api.Frame) api.Frame { f.Kind, f.A = api.OpLookup, 4; return f }
	for _, x := range []struct {
		of   func(api.Frame) api.Frame
		f    api.Frame
		l    api.Cell
		want api.Frame
	}{
		{put, api.Frame{H: 1}, api.Cell{A: 8, B: 1}, api.Frame{Pc: 5, H: 1, N: 1, X: 8}},
		{put, api.Frame{X: 3, N: 9}, api.Cell{A: 1 << 32, B: 65}, api.Frame{Pc: 1, N: 1}},
		{put, api.Frame{Pc: 1, H: 2, X: 3, N: 9}, api.Cell{A: 5, B: 1}, api.Frame{Pc: 2, X: 3, N: 9}},
		{put, api.Frame{Pc: 1, H: 2, X: 3}, api.Cell{B: 2}, api.Frame{Pc: 7, H: 2, X: 3}},
		{put, api.Frame{Pc: 1, H: 2}, api.Cell{B: 1 << 63}, api.Frame{Pc: 7, H: 2}},
		{put, api.Frame{Pc: 2, H: 1, X: 3}, api.Cell{A: 1<<32 + 4, B: 66, C: 1}, api.Frame{Pc: 3, H: 1, N: 2, X: 4}},
		{put, api.Frame{Pc: 3, H: 1}, api.Cell{A: 4, B: 4}, api.Frame{Pc: 2, H: 2}},
		{put, api.Frame{Pc: 3, H: 2, X: 5}, api.Cell{A: 4, B: 4}, api.Frame{Pc: 6, H: 2, X: 5}},
		{put, api.Frame{Pc: 5, H: 1, X: 5}, api.Cell{A: 4, B: 4}, api.Frame{Pc: 6, H: 1, X: 5}},
		{put, api.Frame{Pc: 6, X: 5}, api.Cell{A: 4, B: 4}, api.Frame{Pc: 6, X: 5}},
		{put, api.Frame{Pc: 7, X: 5}, api.Cell{A: 4, B: 4}, api.Frame{Pc: 7, X: 5}},
		{out, api.Frame{H: 1, X: 3}, api.Cell{B: 3}, api.Frame{Pc: 8, H: 1, N: 3}},
		{out, api.Frame{H: 1, X: 3}, api.Cell{A: 1, B: 3}, api.Frame{Pc: 2, N: 3, X: 1}},
		{out, api.Frame{Pc: 2, H: 2}, api.Cell{A: 9, B: 64}, api.Frame{Pc: 3, H: 2, X: 9}},
		{out, api.Frame{Pc: 3, H: 0}, api.Cell{A: 4}, api.Frame{Pc: 2, H: 1}},
		{out, api.Frame{Pc: 3, H: 2}, api.Cell{A: 4}, api.Frame{Pc: 6, H: 2}},
		{out, api.Frame{Pc: 6}, api.Cell{A: 4}, api.Frame{Pc: 6}},
		{out, api.Frame{Pc: 8}, api.Cell{A: 4}, api.Frame{Pc: 8}},
		{ask, api.Frame{}, api.Cell{A: 4, B: 2}, api.Frame{H: 1, X: 4}},
		{ask, api.Frame{}, api.Cell{A: 4, B: 1}, api.Frame{Pc: 6, X: 4}},
		{ask, api.Frame{}, api.Cell{B: 1}, api.Frame{H: 1}},
		{ask, api.Frame{}, api.Cell{A: 1 << 32, B: 1}, api.Frame{H: 1}},
		{ask, api.Frame{}, api.Cell{}, api.Frame{Pc: 8}},
		{ask, api.Frame{}, api.Cell{B: 1 << 32}, api.Frame{H: 1}},
		{ask, api.Frame{H: 2, X: 4}, api.Cell{}, api.Frame{Pc: 6, H: 2, X: 4}},
		{ask, api.Frame{H: 3, X: 4}, api.Cell{A: 9, B: 5}, api.Frame{Pc: 6, H: 3, X: 9}},
		{ask, api.Frame{H: 3}, api.Cell{B: 5}, api.Frame{Pc: 8, H: 3}},
		{ask, api.Frame{H: 3, N: 9}, api.Cell{A: 1, B: 1}, api.Frame{Pc: 6, H: 3, N: 9, X: 1}},
		{ask, api.Frame{Pc: 6, X: 4}, api.Cell{A: 9, B: 5}, api.Frame{Pc: 6, X: 4}},
		{ask, api.Frame{Pc: 8}, api.Cell{A: 9, B: 5}, api.Frame{Pc: 8}},
	} {
		if g, e := trie.After(example, x.of(x.f), x.l); e != api.OK || g != x.of(x.want) {
			t.Errorf("After(%+v, %v) = %+v, %d, not %+v", x.of(x.f), x.l, g, e, x.of(x.want))
		}
	}
}

// P12.1, P1: of each operation all Pcs that the table lacks for its kind, and all depths below its last node.
func TestPcsAndDepthsThatMayNotBe(t *testing.T) {
	for _, bits := range []int{1, 3, 6} {
		c := sized(bits, 2)
		for _, o := range fitting(c, 7) {
			f := reg.Start(o)
			for pc := range 256 {
				if f.Pc = uint8(pc); !slices.Contains(pcs(o.Kind), f.Pc) {
					checkRefused(t, c, f, api.ErrArg)
				}
			}
			for h := len(wayOf(c, f)); h < 256; h++ {
				for _, pc := range pcs(o.Kind) {
					f.Pc, f.H = pc, uint8(h)
					checkRefused(t, c, f, api.ErrArg)
				}
			}
		}
	}
}

// P12.1, P1: operations that do not fit, also where their Pc may be, and such as are of no object, or of another one.
func TestOperationsThatMayNotBe(t *testing.T) {
	const far = math.MaxUint32
	bad := []api.Frame{
		{}, {Kind: 255}, {Kind: 1, A: 1}, {Kind: 1, A: 8, B: 3}, {Kind: 1, B: 4}, {Kind: 1, B: far}, {Kind: 1, A: far, B: far},
		{Kind: 1, Y: maxHop + 1}, {Kind: 1, A: 1, B: 1, Y: far}, {Kind: 2, A: 1}, {Kind: 2, A: 4, B: 2}, {Kind: 2, B: 4}, {Kind: 2, A: far, B: 3},
		{Kind: 2, B: 256}, {Kind: 3, A: 8}, {Kind: 3, B: 1}, {Kind: 3, A: far}, {Kind: 3, A: 1 << 31},
	}
	for kind := range 256 {
		if kind == 0 || kind > 3 {
			bad = append(bad, api.Frame{Kind: uint8(kind)}, api.Frame{Kind: uint8(kind), A: 1, B: 1, Y: 1}, api.Frame{Kind: uint8(kind), A: 1})
		}
	}
	for _, f := range bad {
		for pc := range 10 {
			for h := range 4 {
				f.Pc, f.H = uint8(pc), uint8(h)
				checkRefused(t, example, f, api.ErrArg)
			}
		}
	}
}

// P12.1: Y is a number of OpInsert alone; to the others it is a register, and may be anything, as X, N, I, J and P may be of all.
func TestRegistersMayBeAnything(t *testing.T) {
	const far = math.MaxUint32
	for _, f := range []api.Frame{
		{Kind: 1, A: 5, B: 3, Y: maxHop, X: far, N: 255, I: 255, J: 255, P: 255},
		{Kind: 2, A: 5, B: 3, Y: far, X: far, N: 255, I: 255, J: 255, P: 255},
		{Kind: 3, A: 5, Y: far, X: far, N: 255, I: 255, J: 255, P: 255},
		{Kind: 3, A: 5, Y: maxHop + 1},
	} {
		for _, pc := range pcs(f.Kind) {
			for h := range uint8(4) {
				f.Pc, f.H = pc, h
				checkFrame(t, example, f, someCells(example))
			}
		}
	}
}

// badConfigs may not be, or are of other objects.
func badConfigs() []api.Config {
	l := []api.Config{
		{}, {Bits: -1}, {Object: api.ObjRoute, Bits: math.MinInt},
		{Object: api.ObjIndex, Instances: 2, Threads: 1, Kind: api.KindSlots, Cap: 3, Node: 2, Batch: 1, Chunk: 1, Limit: 131072},
		{Object: api.ObjAccess, Instances: 2, Threads: 1, Kind: api.KindSlots, Cap: 3, Batch: 1, Limit: 131072},
		{Object: api.ObjConfig, Instances: 2, Threads: 1, Kind: api.KindSlots, Cap: 3, Batch: 1, Limit: 131072},
	}
	for _, put := range []func(c *api.Config){
		func(c *api.Config) { c.Object = 0 },
		func(c *api.Config) { c.Object = 255 },
		func(c *api.Config) { c.Instances = 5 },
		func(c *api.Config) { c.Threads = 0 },
		func(c *api.Config) { c.Kind = 3 },
		func(c *api.Config) { c.Stripes = 1 },
		func(c *api.Config) { c.Bits = 0 },
		func(c *api.Config) { c.Bits = -1 },
		func(c *api.Config) { c.Bits = 7 },
		func(c *api.Config) { c.Bits = math.MaxInt },
		func(c *api.Config) { c.Cap = 0 },
		func(c *api.Config) { c.Cap = 33 },
		func(c *api.Config) { c.Node = 2 },
		func(c *api.Config) { c.Chunk = 1 },
		func(c *api.Config) { c.Batch = 17 },
		func(c *api.Config) { c.Limit = 131071 },
		func(c *api.Config) { c.Most = 1 },
	} {
		c := example
		put(&c)
		l = append(l, c)
	}
	return l
}

// P12.1, P1: a config that may not be, or is of another object, is told ahead of a frame that may not be, and of that object's own.
func TestBadConfigs(t *testing.T) {
	for _, c := range badConfigs() {
		for kind := range 16 {
			for pc := range 26 {
				f := api.Frame{Kind: uint8(kind), A: 1, B: 1, Pc: uint8(pc)}
				checkRefused(t, c, f, api.ErrConf)
				f.A, f.B, f.H = 0, 0, uint8(pc)
				checkRefused(t, c, f, api.ErrConf)
			}
		}
		checkRefused(t, c, api.Frame{Kind: 255, A: math.MaxUint32, B: math.MaxUint32, Pc: 255, H: 255}, api.ErrConf)
	}
}

// P12.1: what a program does hangs on Bits and Cap alone: other instances, threads, indicators and batches turn nothing.
func TestHangsOnTheObjectAlone(t *testing.T) {
	great := example
	great.Instances, great.Threads, great.Kind, great.Stripes, great.Batch, great.Limit, great.Most = 4, 16, api.KindStripes, 4, 16, 1<<62, 1<<62
	for _, o := range fitting(example, 7) {
		for _, f := range framesOf(example, o) {
			checkFrame(t, great, f, []api.Cell{{}, {A: 1, B: 1}, {A: 3, B: 2}})
		}
	}
}

// P12.2 and Rules of DOC.md: nothing is kept: asked backwards, all calls answer what they did.
func TestNothingIsKept(t *testing.T) {
	type asked struct {
		c     api.Config
		f     api.Frame
		a     api.Act
		after api.Frame
	}
	l := api.Cell{Tag: 5, A: 3, B: 1, C: 4}
	var all []asked
	for _, c := range []api.Config{sized(2, 1), sized(3, 2), sized(4, 9)} {
		for _, o := range fitting(c, 0, 7) {
			for _, f := range framesOf(c, o) {
				x := asked{c: c, f: f}
				x.a, _ = trie.Next(c, f)
				x.after, _ = trie.After(c, f, l)
				all = append(all, x)
			}
		}
	}
	for _, x := range slices.Backward(all) {
		a, _ := trie.Next(x.c, x.f)
		after, _ := trie.After(x.c, x.f, l)
		if a != x.a || after != x.after {
			t.Fatalf("of %+v: %+v and %+v, and then %+v and %+v", x.f, x.a, x.after, a, after)
		}
	}
}

// bound is how many acts there are at most, but for that which ends them.
func bound(c api.Config, kind uint8) int {
	if kind == api.OpLookup {
		return c.Bits + 1
	}
	return 2*(c.Bits+1) + 2
}

// longest is how many acts a frame has ahead of it at most, whatever it reads out of some cells.
type longest struct {
	c     api.Config
	cells []api.Cell
	known map[api.Frame]int
}

func (x longest) from(t *testing.T, f api.Frame, sofar int) int {
	t.Helper()
	if n, ok := x.known[f]; ok {
		return n
	}
	a, e := trie.Next(x.c, f)
	if e != api.OK || sofar > bound(x.c, f.Kind) {
		t.Fatalf("%+v behind %d acts: %+v, %d", f, sofar, a, e)
	}
	if a.Kind == api.ActDone {
		return 0
	}
	if a.At < 1 || a.At >= 2<<x.c.Bits || a.Kind != api.ActRead && (a.Kind != api.ActWrite || f.Kind == api.OpLookup) {
		t.Fatalf("%+v does %+v", f, a)
	}
	most := 0
	for _, l := range x.cells {
		g, _ := trie.After(x.c, f, l)
		most = max(most, 1+x.from(t, g, sofar+1))
	}
	x.known[f] = most
	return most
}

// P12.3: whatever it reads, a program is done in time, goes on by frames that may be, and stays at the nodes; and the bounds are met.
func TestWhateverItReads(t *testing.T) {
	for bits := 1; bits <= 6; bits++ {
		for _, most := range []int{1, 3} {
			c := sized(bits, most)
			cells := []api.Cell{{}, {A: 1}, {B: 1}, {A: 1, B: 1}, {A: 2, B: 64}, {A: 1 << 32, B: 2}, {Tag: 1, A: math.MaxUint64, B: math.MaxUint64, C: 1}}
			met := map[uint8]int{}
			for _, o := range fitting(c, 7) {
				x := longest{c: c, cells: cells, known: map[api.Frame]int{}}
				n := x.from(t, reg.Start(o), 0)
				if n > bound(c, o.Kind) {
					t.Errorf("%v of Bits %d has %d acts", o, bits, n)
				}
				met[o.Kind] = max(met[o.Kind], n)
			}
			if met[1] != 2*bits+4 || met[2] != 2*bits+3 || met[3] != bits+1 {
				t.Errorf("of Bits %d there are %v acts at most", bits, met)
			}
		}
	}
}

// instance is one that stands alone; the tags are another layer's, and stay.
type instance struct {
	c     api.Config
	cells []api.Cell
}

func newInstance(c api.Config) instance {
	x := instance{c: c, cells: make([]api.Cell, 2<<c.Bits)}
	for i := range x.cells {
		x.cells[i].Tag = uint64(100 + i)
	}
	return x
}

// do does an operation alone, act by act, and answers all of them, the last one too.
func (x instance) do(t *testing.T, o api.Op) []api.Act {
	t.Helper()
	var done []api.Act
	for f := reg.Start(o); ; {
		a, e := trie.Next(x.c, f)
		if e != api.OK || len(done) > bound(x.c, o.Kind) {
			t.Fatalf("%v of %v: %d behind %v", o, x.cells, e, done)
		}
		done = append(done, a)
		if a.Kind == api.ActDone {
			return done
		}
		l := &x.cells[a.At]
		if a.Kind == api.ActWrite {
			*l = api.Cell{Tag: l.Tag, A: a.A, B: a.B, C: a.C}
		}
		f, _ = trie.After(x.c, f, *l)
	}
}

// laid is the instance that means rows, put together route by route by the chapter's words.
func laid(c api.Config, rows []api.Row) []api.Cell {
	l := newInstance(c).cells
	for _, r := range rows {
		l[r.K].A = r.V + 1
		for n := r.K; n > 0; n /= 2 {
			l[n].B++
		}
	}
	return l
}

// checkAlone does an operation on an instance that means rows, and holds it against the model; it answers the rows behind it.
func checkAlone(t *testing.T, x instance, rows []api.Row, o api.Op) []api.Row {
	t.Helper()
	kept := slices.Clone(x.cells)
	acts := x.do(t, o)
	end := acts[len(acts)-1]
	out, r, e := table.Do(x.c, rows, o)
	if e != api.OK || end != (api.Act{Kind: api.ActDone, Code: r.Code, V: r.V}) {
		t.Fatalf("%v of %v tells %+v, and the model %v, %d", o, rows, end, r, e)
	}
	if !slices.Equal(x.cells, laid(x.c, out)) {
		t.Fatalf("%v of %v leaves %v, not %v", o, rows, x.cells, laid(x.c, out))
	}
	wrote := slices.ContainsFunc(acts, func(a api.Act) bool { return a.Kind == api.ActWrite })
	if wrote && (o.Kind == api.OpLookup || r.Code != api.OK) || r.Code != api.OK && !slices.Equal(x.cells, kept) {
		t.Fatalf("%v of %v writes: %v", o, rows, acts)
	}
	return out
}

// P12.3: the chapter's example, act by act.
func TestExample(t *testing.T) {
	x := newInstance(example)
	read := func(at int) api.Act { return api.Act{Kind: api.ActRead, At: at} }
	write := func(at int, a, b uint64) api.Act { return api.Act{Kind: api.ActWrite, At: at, A: a, B: b} }
	if l := x.do(t, insert(5, 3, 7)); !slices.Equal(l, []api.Act{
		read(13), read(1), read(1), write(1, 0, 1), read(3), write(3, 0, 1), read(6), write(6, 0, 1), read(13), write(13, 8, 1), {Kind: api.ActDone},
	}) {
		t.Error(l)
	}
	if l := x.do(t, lookup(5)); !slices.Equal(l, []api.Act{read(1), read(3), read(6), read(13), {Kind: api.ActDone, V: 8}}) {
		t.Error(l)
	}
	if !slices.Equal(x.cells, laid(example, []api.Row{{K: 13, V: 7}})) {
		t.Error(x.cells)
	}
}

// P12.3: a prefix that is there is turned by one write; one that is not there, or has no room, by none.
func TestActsOnAnInstance(t *testing.T) {
	read := func(at int) api.Act { return api.Act{Kind: api.ActRead, At: at} }
	write := func(at int, a, b uint64) api.Act { return api.Act{Kind: api.ActWrite, At: at, A: a, B: b} }
	for _, s := range []struct {
		o    api.Op
		want []api.Act
	}{
		{insert(5, 3, 9), []api.Act{read(13), write(13, 10, 1), {Kind: api.ActDone, V: 8}}},
		{insert(0, 0, maxHop), []api.Act{read(1), write(1, 1<<31, 2), {Kind: api.ActDone, V: 5}}},
		{insert(1, 1, 9), []api.Act{read(3), read(1), {Kind: api.ActDone, Code: api.ErrFull}}},
		{remove(2, 2), []api.Act{read(6), {Kind: api.ActDone, Code: api.ErrNone}}},
		{remove(0, 0), []api.Act{read(1), read(1), write(1, 0, 1), {Kind: api.ActDone, V: 5}}},
		{remove(5, 3), []api.Act{read(13), read(1), write(1, 5, 1), read(3), write(3, 0, 0), read(6), write(6, 0, 0), read(13), write(13, 0, 0), {Kind: api.ActDone, V: 8}}},
		{lookup(0), []api.Act{read(1), read(2), {Kind: api.ActDone, V: 5}}},
		{lookup(4), []api.Act{read(1), read(3), read(6), read(12), {Kind: api.ActDone, V: 5}}},
		{lookup(5), []api.Act{read(1), read(3), read(6), read(13), {Kind: api.ActDone, V: 8}}},
	} {
		x := instance{c: example, cells: laid(example, []api.Row{{K: 1, V: 4}, {K: 13, V: 7}})}
		if l := x.do(t, s.o); !slices.Equal(l, s.want) {
			t.Errorf("%v does %+v, not %+v", s.o, l, s.want)
		}
	}
}

// P12.3: every operation on every instance of keys of up to two bits, held against the model.
func TestEveryInstanceOfShortKeys(t *testing.T) {
	for _, c := range []api.Config{sized(1, 1), sized(1, 2), sized(1, 3), sized(2, 1), sized(2, 2), sized(2, 7)} {
		ops := fitting(c, 0, maxHop)
		nodes := 2<<c.Bits - 1
		for code := range int(math.Pow(3, float64(nodes))) {
			var rows []api.Row
			for n := 1; n <= nodes; n, code = n+1, code/3 {
				if code%3 > 0 {
					rows = append(rows, api.Row{K: uint64(n), V: uint64(code%3-1) * maxHop})
				}
			}
			if !table.Is(c, rows) {
				continue
			}
			for _, o := range ops {
				checkAlone(t, instance{c: c, cells: laid(c, rows)}, rows, o)
			}
		}
	}
}

// P12.3: many operations one behind the other, from noughts on, of all sizes: what they leave and answer is the model's.
func TestAloneFromNoughtsOn(t *testing.T) {
	for bits := 1; bits <= 6; bits++ {
		for _, most := range []int{1, 2, 5, 31, 32} {
			c := sized(bits, most)
			ops, x := fitting(c, 0, 7, maxHop), newInstance(c)
			var rows []api.Row
			seed, full := uint64(bits*100+most), 0
			for range 600 {
				seed = seed*6364136223846793005 + 1442695040888963407
				rows = checkAlone(t, x, rows, ops[seed>>33%uint64(len(ops))])
				full = max(full, len(rows))
			}
			if room := min(most, 2<<bits-1); full < min(room, 8) {
				t.Errorf("of Bits %d, Cap %d there were %d routes at most", bits, most, full)
			}
		}
	}
}

// P12.3: an instance is filled up to Cap with routes that share a way, and emptied again: no count is cut off.
func TestFilledAndEmptied(t *testing.T) {
	c := sized(6, 32)
	x := newInstance(c)
	var rows []api.Row
	for number := range uint32(32) {
		rows = checkAlone(t, x, rows, insert(number, 6, number))
	}
	for _, o := range []api.Op{insert(32, 6, 1), insert(0, 0, 1), insert(31, 6, 5), remove(32, 6), lookup(31), lookup(32)} {
		rows = checkAlone(t, x, rows, o)
	}
	for number := range uint32(32) {
		rows = checkAlone(t, x, rows, remove(31-number, 6))
	}
	if len(rows) != 0 || !slices.Equal(x.cells, newInstance(c).cells) {
		t.Error(rows, x.cells)
	}
}

// P12.3: a frame that starts may be, just if its operation is one that fits.
func TestWhatStarts(t *testing.T) {
	for kind := range uint8(16) {
		for _, a := range []uint32{0, 1, 3, 7, 8, 1 << 31} {
			for _, b := range []uint32{0, 1, 3, 4} {
				o := api.Op{Kind: kind, A: a, B: b}
				_, e := trie.Next(example, reg.Start(o))
				if (e == api.OK) != (op.Check(example, o) == api.OK) {
					t.Errorf("Next of %v that starts: %d", o, e)
				}
			}
		}
	}
}
