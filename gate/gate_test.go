package gate_test

import (
	"math"
	"slices"
	"testing"

	"bascule/api"
	"bascule/gate"
	"bascule/op"
	"bascule/reg"
)

const far = math.MaxUint32

// starts are frames whose operations are at the edges of what fits; their registers are what is left of them, too.
var starts = []api.Frame{
	{Kind: 9, Y: 1}, {Kind: 9, A: 1, B: 7, Y: 2}, {Kind: 9, A: 1, Y: 1, X: 2}, {Kind: 9, B: 7, Y: 2, X: far}, {Kind: 9, A: maxWho, B: maxWho, Y: 1, X: 1},
	{Kind: 10}, {Kind: 10, A: 1, B: 7, X: 2}, {Kind: 10, A: 1, Y: far}, {Kind: 10, B: 7, X: far, Y: 3}, {Kind: 10, A: maxWho, B: maxWho, X: 1},
	{Kind: 11, A: 1, B: 7}, {Kind: 11, A: 1, B: 1, X: 1}, {Kind: 11, A: 7, B: 1, X: 2, Y: far}, {Kind: 11, A: maxWho, B: maxWho, X: far},
}

// P14.1: every row of the table, of all places, room found or not, of all sorts of cells, held against the chapter's words.
func TestEveryFrame(t *testing.T) {
	for most := 1; most <= 4; most++ {
		c := sized(most)
		for _, start := range starts {
			cells := someCells(start)
			everyFrame(c, start, func(f api.Frame) { checkFrame(t, c, f, cells) })
		}
	}
}

// P14.1: of greater sizes as well, with a few cells.
func TestEveryFrameOfGreatSizes(t *testing.T) {
	for _, most := range []int{31, 32} {
		c := sized(most)
		for _, start := range starts {
			a, b := uint64(start.A), uint64(start.B)
			cells := []api.Cell{{}, {A: 1, B: a, C: b}, {A: 2, B: a, C: b}, {A: 1, B: a + 1, C: b}, {A: 2, C: b}}
			everyFrame(c, start, func(f api.Frame) { checkFrame(t, c, f, cells) })
		}
	}
}

// P14.1: acts by hand, of Cap 3.
func TestActsByHand(t *testing.T) {
	add := api.Frame{Kind: api.OpAdd, A: 1, B: 7, Y: api.Deny, I: 2, J: 1, X: 4}
	drop := api.Frame{Kind: api.OpDrop, A: 1, B: 7, Y: api.Deny, I: 2, J: 1, X: 4}
	ask := api.Frame{Kind: api.OpCheck, A: 1, B: 7, I: 2, J: 1, X: 4}
	at := func(f api.Frame, pc uint8) api.Frame { f.Pc = pc; return f }
	for _, x := range []struct {
		f    api.Frame
		want api.Act
	}{
		{at(add, 0), api.Act{Kind: api.ActRead, At: 2}},
		{at(add, 2), api.Act{Kind: api.ActWrite, At: 1, A: 2, B: 1, C: 7}},
		{at(add, 20), api.Act{Kind: api.ActDone, V: 4}},
		{at(add, 22), api.Act{Kind: api.ActDone, Code: api.ErrFull}},
		{at(drop, 0), api.Act{Kind: api.ActRead, At: 2}},
		{at(drop, 2), api.Act{Kind: api.ActWrite, At: 1}},
		{at(drop, 20), api.Act{Kind: api.ActDone, V: 4}},
		{at(drop, 21), api.Act{Kind: api.ActDone, Code: api.ErrNone}},
		{at(ask, 0), api.Act{Kind: api.ActRead, At: 2}},
		{at(ask, 20), api.Act{Kind: api.ActDone, V: 4}},
		{api.Frame{Kind: api.OpAdd, Pc: 2, Y: api.Allow}, api.Act{Kind: api.ActWrite, A: 1}},
		{api.Frame{Kind: api.OpAdd, Pc: 2, A: maxWho, B: maxWho, Y: api.Allow, J: 2}, api.Act{Kind: api.ActWrite, At: 2, A: 1, B: 65535, C: 65535}},
		{api.Frame{Kind: api.OpDrop, Pc: 20, X: far}, api.Act{Kind: api.ActDone, V: far}},
	} {
		if a, e := gate.Next(example, x.f); e != api.OK || a != x.want {
			t.Errorf("Next(%+v) = %+v, %d, not %+v", x.f, a, e, x.want)
		}
	}
}

// P14.1: what becomes of frames, by hand, of Cap 3: where the table branches, where a number is cut, and where it is not.
func TestFramesByHand(t *testing.T) {
	add := func(f api.Frame) api.Frame { f.Kind, f.A, f.B, f.Y = api.OpAdd, 1, 7, api.Deny; return f }
	drop := func(f api.Frame) api.Frame { f.Kind, f.A, f.B = api.OpDrop, 1, 7; return f }
	ask := func(f api.Frame) api.Frame { f.Kind, f.A, f.B = api.OpCheck, 1, 7; return f }
	for _, x := range []struct {
		of   func(api.Frame) api.Frame
		f    api.Frame
		l    api.Cell
		want api.Frame
	}{
		{add, api.Frame{I: 1, X: 5}, api.Cell{A: 1, B: 1, C: 7}, api.Frame{Pc: 2, I: 1, J: 1, X: 1}},
		{add, api.Frame{I: 2, H: 1}, api.Cell{A: 2, B: 1, C: 7}, api.Frame{Pc: 2, I: 2, J: 2, H: 1, X: 2}},
		{add, api.Frame{I: 2}, api.Cell{A: 1<<32 + 3, B: 1, C: 7}, api.Frame{Pc: 2, I: 2, J: 2, X: 3}},
		{add, api.Frame{X: 5}, api.Cell{A: 1 << 32, B: 1, C: 7}, api.Frame{Pc: 2}},
		{add, api.Frame{X: 5}, api.Cell{A: 1, B: 1, C: 1<<32 + 7}, api.Frame{I: 1, X: 5}},
		{add, api.Frame{X: 5}, api.Cell{A: 1, B: 1<<32 + 1, C: 7}, api.Frame{I: 1, X: 5}},
		{add, api.Frame{X: 5}, api.Cell{A: 1, B: 1}, api.Frame{I: 1, X: 5}},
		{add, api.Frame{J: 2}, api.Cell{B: 1, C: 7}, api.Frame{I: 1, H: 1}},
		{add, api.Frame{I: 1, H: 1}, api.Cell{}, api.Frame{I: 2, H: 1}},
		{add, api.Frame{I: 1, J: 1}, api.Cell{A: 1 << 32}, api.Frame{I: 2, J: 1}},
		{add, api.Frame{I: 2, X: 5}, api.Cell{}, api.Frame{Pc: 2, I: 2, J: 2, H: 1}},
		{add, api.Frame{I: 2, J: 1, H: 1, X: 5}, api.Cell{A: 1}, api.Frame{Pc: 2, I: 2, J: 1, H: 1}},
		{add, api.Frame{I: 2, J: 1, H: 1, X: 5}, api.Cell{}, api.Frame{Pc: 2, I: 2, J: 1, H: 1}},
		{add, api.Frame{I: 2, J: 1, X: 5}, api.Cell{A: 1}, api.Frame{Pc: 22, I: 2, J: 1}},
		{add, api.Frame{Pc: 2, X: 5}, api.Cell{A: 1, B: 1, C: 7}, api.Frame{Pc: 20, X: 5}},
		{add, api.Frame{Pc: 20, X: 5}, api.Cell{A: 1, B: 1, C: 7}, api.Frame{Pc: 20, X: 5}},
		{add, api.Frame{Pc: 22, X: 5}, api.Cell{}, api.Frame{Pc: 22, X: 5}},
		{drop, api.Frame{I: 2, H: 1}, api.Cell{A: 2, B: 1, C: 7}, api.Frame{Pc: 2, I: 2, J: 2, H: 1, X: 2}},
		{drop, api.Frame{X: 5, J: 1}, api.Cell{A: 1 << 32, B: 1, C: 7}, api.Frame{Pc: 2}},
		{drop, api.Frame{X: 5, J: 1}, api.Cell{B: 1, C: 7}, api.Frame{I: 1, J: 1, X: 5}},
		{drop, api.Frame{I: 1}, api.Cell{A: 1}, api.Frame{I: 2}},
		{drop, api.Frame{I: 2, X: 5}, api.Cell{A: 1, B: 1}, api.Frame{Pc: 21, I: 2, X: 5}},
		{drop, api.Frame{Pc: 2, I: 1, X: 5}, api.Cell{A: 1, B: 1, C: 7}, api.Frame{Pc: 20, I: 1, X: 5}},
		{drop, api.Frame{Pc: 20, X: 5}, api.Cell{}, api.Frame{Pc: 20, X: 5}},
		{drop, api.Frame{Pc: 21, X: 5}, api.Cell{A: 1, B: 1, C: 7}, api.Frame{Pc: 21, X: 5}},
		{ask, api.Frame{}, api.Cell{A: 2, B: 1, C: 7}, api.Frame{Pc: 20, X: 2}},
		{ask, api.Frame{I: 1, X: 1}, api.Cell{A: 2}, api.Frame{Pc: 20, I: 1, X: 2}},
		{ask, api.Frame{}, api.Cell{A: 1, B: 1}, api.Frame{I: 1, X: 1}},
		{ask, api.Frame{X: 2}, api.Cell{A: 1, C: 7}, api.Frame{I: 1, X: 1}},
		{ask, api.Frame{}, api.Cell{A: 1<<32 + 2, B: 1, C: 7}, api.Frame{I: 1, X: 1}},
		{ask, api.Frame{}, api.Cell{A: 3}, api.Frame{I: 1, X: 1}},
		{ask, api.Frame{}, api.Cell{A: 2, B: 1, C: 5}, api.Frame{I: 1}},
		{ask, api.Frame{}, api.Cell{A: 2, B: 2, C: 7}, api.Frame{I: 1}},
		{ask, api.Frame{}, api.Cell{A: 2, B: 1 << 32, C: 7}, api.Frame{I: 1}},
		{ask, api.Frame{}, api.Cell{A: 2, B: 1, C: 1<<32 + 7}, api.Frame{I: 1}},
		{ask, api.Frame{}, api.Cell{B: 1, C: 7}, api.Frame{I: 1}},
		{ask, api.Frame{I: 2}, api.Cell{A: 1, B: 1}, api.Frame{Pc: 20, I: 2, X: 1}},
		{ask, api.Frame{I: 2, X: 1}, api.Cell{}, api.Frame{Pc: 20, I: 2, X: 1}},
		{ask, api.Frame{Pc: 20, X: 1}, api.Cell{A: 2}, api.Frame{Pc: 20, X: 1}},
	} {
		if g, e := gate.After(example, x.of(x.f), x.l); e != api.OK || g != x.of(x.want) {
			t.Errorf("After(%+v, %v) = %+v, %d, not %+v", x.of(x.f), x.l, g, e, x.of(x.want))
		}
	}
}

// P14.1, P1: of each kind all Pcs that the table lacks for it, and all places and marks of room beyond their limits, at every Pc.
func TestPcsAndRegistersThatMayNotBe(t *testing.T) {
	for _, most := range []int{1, 3, 32} {
		c := sized(most)
		for _, start := range starts {
			for pc := range 256 {
				f := start
				if f.Pc = uint8(pc); !slices.Contains(pcs(f.Kind), f.Pc) {
					checkRefused(t, c, f, api.ErrArg)
					continue
				}
				for n := most; n < 256; n++ {
					f.I, f.J = uint8(n), 0
					checkRefused(t, c, f, api.ErrArg)
					f.I, f.J = 0, uint8(n)
					checkRefused(t, c, f, api.ErrArg)
				}
				f.I, f.J = 0, 0
				for h := 2; h < 256; h++ {
					f.H = uint8(h)
					checkRefused(t, c, f, api.ErrArg)
				}
			}
		}
	}
}

// P14.1, P1: operations that do not fit, also where their Pc may be, and such as are of no object, or of another one.
func TestOperationsThatMayNotBe(t *testing.T) {
	bad := []api.Frame{
		{Kind: 9}, {Kind: 9, Y: 3}, {Kind: 9, Y: far}, {Kind: 9, A: 1, B: 1}, {Kind: 9, A: 65536, Y: 1}, {Kind: 9, B: 65536, Y: 2}, {Kind: 9, A: far, B: far, Y: 1},
		{Kind: 10, A: 65536}, {Kind: 10, B: 65536}, {Kind: 10, A: far, B: far, Y: 1},
		{Kind: 11}, {Kind: 11, A: 1}, {Kind: 11, B: 1}, {Kind: 11, A: 65536, B: 1}, {Kind: 11, A: 1, B: 65536}, {Kind: 11, A: far, B: far}, {Kind: 11, Y: 1},
	}
	for kind := range 256 {
		if !slices.Contains(kinds, uint8(kind)) {
			bad = append(bad, api.Frame{Kind: uint8(kind)}, api.Frame{Kind: uint8(kind), A: 1, B: 1, Y: 1}, api.Frame{Kind: uint8(kind), A: 1})
		}
	}
	for _, f := range bad {
		for pc := range 24 {
			for h := range 3 {
				f.Pc, f.H = uint8(pc), uint8(h)
				checkRefused(t, example, f, api.ErrArg)
			}
		}
	}
}

// P14.1: Y is a number of OpAdd alone; to the others it is a register, and may be anything, as X, N and P may be of all.
func TestRegistersMayBeAnything(t *testing.T) {
	for _, start := range starts {
		start.X, start.N, start.P = far, 255, 255
		if start.Kind != api.OpAdd {
			start.Y = far
		}
		cells := someCells(start)
		everyFrame(example, start, func(f api.Frame) { checkFrame(t, example, f, cells) })
	}
}

// badConfigs may not be, or are of other objects.
func badConfigs() []api.Config {
	l := []api.Config{
		{}, {Cap: -1}, {Object: api.ObjAccess, Cap: math.MinInt},
		{Object: api.ObjRoute, Instances: 2, Threads: 1, Kind: api.KindSlots, Bits: 3, Cap: 3, Batch: 1, Limit: 131072},
		{Object: api.ObjIndex, Instances: 2, Threads: 1, Kind: api.KindSlots, Cap: 3, Node: 2, Batch: 1, Chunk: 1, Limit: 131072},
		{Object: api.ObjConfig, Instances: 2, Threads: 1, Kind: api.KindSlots, Cap: 3, Batch: 1, Limit: 131072},
	}
	for _, put := range []func(c *api.Config){
		func(c *api.Config) { c.Object = 0 },
		func(c *api.Config) { c.Object = 255 },
		func(c *api.Config) { c.Instances = 1 },
		func(c *api.Config) { c.Instances = 5 },
		func(c *api.Config) { c.Threads = 0 },
		func(c *api.Config) { c.Threads = 17 },
		func(c *api.Config) { c.Kind = 3 },
		func(c *api.Config) { c.Stripes = 1 },
		func(c *api.Config) { c.Bits = 1 },
		func(c *api.Config) { c.Cap = 0 },
		func(c *api.Config) { c.Cap = -1 },
		func(c *api.Config) { c.Cap = 33 },
		func(c *api.Config) { c.Cap = math.MaxInt },
		func(c *api.Config) { c.Node = 2 },
		func(c *api.Config) { c.Chunk = 1 },
		func(c *api.Config) { c.Batch = 0 },
		func(c *api.Config) { c.Batch = 17 },
		func(c *api.Config) { c.Limit = 131071 },
		func(c *api.Config) { c.Most = 1 },
	} {
		c := example
		put(&c)
		l = append(l, c)
	}
	return l
}

// P14.1, P1: a config that may not be, or is of another object, is told ahead of a frame that may not be, and of that object's own.
func TestBadConfigs(t *testing.T) {
	for _, c := range badConfigs() {
		for kind := range 16 {
			for pc := range 26 {
				f := api.Frame{Kind: uint8(kind), A: 1, B: 1, Y: 1, Pc: uint8(pc)}
				checkRefused(t, c, f, api.ErrConf)
				f.A, f.B, f.Y, f.H = 0, 0, 0, uint8(pc)
				checkRefused(t, c, f, api.ErrConf)
			}
		}
		checkRefused(t, c, api.Frame{Kind: 255, A: far, B: far, Pc: 255, I: 255, J: 255, H: 255}, api.ErrConf)
	}
}

// P14.1: what a program does hangs on Cap alone: other instances, threads, indicators and batches turn nothing.
func TestHangsOnTheObjectAlone(t *testing.T) {
	great := example
	great.Instances, great.Threads, great.Kind, great.Stripes, great.Batch, great.Limit, great.Most = 4, 16, api.KindStripes, 4, 16, 1<<62, 1<<62
	for _, start := range starts {
		cells := someCells(start)
		everyFrame(great, start, func(f api.Frame) { checkFrame(t, great, f, cells) })
	}
}

// P14.2 and Rules of DOC.md: nothing is kept: asked backwards, all calls answer what they did.
func TestNothingIsKept(t *testing.T) {
	type asked struct {
		c     api.Config
		f     api.Frame
		l     api.Cell
		a     api.Act
		after api.Frame
	}
	var all []asked
	for _, c := range []api.Config{sized(1), sized(2), example} {
		for _, start := range starts {
			cells := someCells(start)
			everyFrame(c, start, func(f api.Frame) {
				x := asked{c: c, f: f, l: cells[len(all)%len(cells)]}
				x.a, _ = gate.Next(c, f)
				x.after, _ = gate.After(c, f, x.l)
				all = append(all, x)
			})
		}
	}
	for _, x := range slices.Backward(all) {
		a, _ := gate.Next(x.c, x.f)
		after, _ := gate.After(x.c, x.f, x.l)
		if a != x.a || after != x.after {
			t.Fatalf("of %+v: %+v and %+v, and then %+v and %+v", x.f, x.a, x.after, a, after)
		}
	}
}

// P14.3: a frame that starts may be, just if its operation is one of access rules, and fits (but of OpAdd its C is a register).
func TestWhatStarts(t *testing.T) {
	numbers := []uint32{0, 1, 7, maxWho, maxWho + 1, far}
	for kind := range uint8(20) {
		for _, a := range numbers {
			for _, b := range numbers {
				for _, third := range []uint32{0, 1, 2, 3, far} {
					o := api.Op{Kind: kind, A: a, B: b, C: third}
					_, e := gate.Next(example, reg.Start(o))
					if kind != api.OpAdd {
						o.C = 0
					}
					if (e == api.OK) != (op.Check(example, o) == api.OK) {
						t.Errorf("Next of %v that starts: %d", o, e)
					}
				}
			}
		}
	}
}
