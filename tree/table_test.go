package tree_test

import (
	"slices"

	"bascule/api"
)

// This file has the chapter's table once more, by numbers and in the chapter's order, for what the program is held against.

const maxValue = 2147483647

// example is the chapter's config.
var example = api.Config{Object: api.ObjIndex, Instances: 2, Threads: 1, Kind: api.KindSlots, Cap: 3, Node: 2, Batch: 1, Chunk: 1, Limit: 131072}

func sized(most, wide, chunk int) api.Config {
	c := example
	c.Cap, c.Node, c.Chunk = most, wide, chunk
	return c
}

// pcs are those that the table has for each kind.
func pcs(kind uint8) []uint8 {
	return map[uint8][]uint8{
		4: {0, 1, 4, 5, 6, 7, 8, 9, 11, 22, 23, 24},
		5: {0, 1, 8, 9, 11, 12, 13, 14, 15, 21, 25},
		6: {0, 1, 21, 23},
		7: {0, 1, 3, 20, 21},
		8: {0, 1, 16, 17, 20},
	}[kind]
}

// kinds are an index's.
var kinds = []uint8{4, 5, 6, 7, 8}

// itemsOf is c(h) of so many entries, gone up level by level: the program divides by powers instead.
func itemsOf(entries, wide, h int) int {
	for ; h > 0; h-- {
		entries = (entries + wide - 1) / wide
	}
	return entries
}

// topOf is T.
func topOf(c api.Config) int {
	t := 0
	for itemsOf(c.Cap, c.Node, t) > c.Node {
		t++
	}
	return t
}

func offset(c api.Config, h, i int) int {
	if h == 0 {
		return 1 + i
	}
	return offset(c, h-1, itemsOf(c.Cap, c.Node, h-1)) + i
}

func sizeOf(c api.Config) int {
	return offset(c, topOf(c)+1, 0)
}

// lastOf is the number of the last item below of those that the item i of level h is for.
func lastOf(c api.Config, entries, h, i int) int {
	last := i * c.Node
	for n := range c.Node {
		if i*c.Node+n < itemsOf(entries, c.Node, h-1) {
			last = i*c.Node + n
		}
	}
	return last
}

func fits(f api.Frame) bool {
	switch f.Kind {
	case 4, 8:
		return f.A <= maxValue && f.B <= maxValue
	case 5:
		return f.A <= maxValue
	case 6, 7:
		return f.A <= maxValue && f.B == 0
	}
	return false
}

func mayBe(c api.Config, f api.Frame) bool {
	i, n, p, h := int(f.I), int(f.N), int(f.P), int(f.H)
	if !fits(f) || !slices.Contains(pcs(f.Kind), f.Pc) || n > c.Cap || p > c.Cap || int(f.J) > c.Chunk || h > topOf(c) {
		return false
	}
	has := func(h, i int) bool { return i >= 0 && i < itemsOf(c.Cap, c.Node, h) }
	switch f.Pc {
	case 1:
		return has(h, i)
	case 3:
		return has(0, p-1)
	case 4, 7, 17:
		return has(0, p)
	case 5, 14:
		return has(0, i-1)
	case 6:
		return has(0, i) && i > 0
	case 9, 11:
		return h > 0 && i < itemsOf(n, c.Node, h)
	case 12:
		return h > 0 && has(h, itemsOf(n, c.Node, h))
	case 13:
		return has(0, i)
	case 15:
		return has(0, n-1)
	}
	return true
}

// wantAct is the table's third column.
func wantAct(c api.Config, f api.Frame) api.Act {
	i, n, p, h := int(f.I), int(f.N), int(f.P), int(f.H)
	read := func(h, i int) api.Act { return api.Act{Kind: 1, At: offset(c, h, i)} }
	write := func(h, i int, a, b uint32) api.Act {
		return api.Act{Kind: 2, At: offset(c, h, i), A: uint64(a), B: uint64(b)}
	}
	switch f.Pc {
	case 0:
		return api.Act{Kind: 1}
	case 1:
		return read(h, i)
	case 3:
		return read(0, p-1)
	case 4, 7:
		return write(0, p, f.A, f.B)
	case 5:
		return read(0, i-1)
	case 6:
		return write(0, i, f.X, f.Y)
	case 8:
		return api.Act{Kind: 2, A: uint64(n)}
	case 9:
		return read(h-1, lastOf(c, n, h, i))
	case 11:
		return write(h, i, f.X, 0)
	case 12:
		return write(h, itemsOf(n, c.Node, h), 0, 0)
	case 13:
		return read(0, i)
	case 14:
		return write(0, i-1, f.X, f.Y)
	case 15:
		return write(0, n-1, 0, 0)
	case 16:
		return api.Act{Kind: 3}
	case 17:
		return read(0, p)
	case 21:
		return api.Act{Kind: 4, Code: 6}
	case 22:
		return api.Act{Kind: 4, Code: 9}
	case 23:
		return api.Act{Kind: 4, V: f.Y + 1}
	case 25:
		return api.Act{Kind: 4, V: f.B}
	}
	return api.Act{Kind: 4}
}

// telling is a frame, and whether its X and Y are told.
type telling struct {
	f    api.Frame
	told bool
}

func at(f api.Frame, pc uint8) telling {
	f.Pc = pc
	return telling{f: f}
}

func tell(x telling) telling {
	x.told = true
	return x
}

func found(c api.Config, f api.Frame) telling {
	is := f.X == f.A
	switch {
	case f.Kind == 6 && is:
		return at(f, 23)
	case f.Kind == 7 && is:
		return tell(at(f, 20))
	case f.Kind == 7:
		return atFloor(f)
	case f.Kind == 8 && f.X <= f.B:
		return tell(on(c, f))
	case f.Kind == 8:
		return at(f, 20)
	case f.Kind == 4 && is:
		return at(f, 4)
	case f.Kind == 4:
		return fresh(c, f)
	case f.Kind == 5 && is:
		f.B = f.Y + 1
		if f.P+1 >= f.N {
			return at(f, 15)
		}
		f.I = f.P + 1
		return at(f, 13)
	}
	return at(f, 21)
}

func none(c api.Config, f api.Frame) telling {
	f.P = f.N
	switch f.Kind {
	case 7:
		return atFloor(f)
	case 8:
		return at(f, 20)
	case 4:
		return fresh(c, f)
	}
	return at(f, 21)
}

func atFloor(f api.Frame) telling {
	if f.P == 0 {
		return at(f, 21)
	}
	return at(f, 3)
}

// fresh is what the chapter calls new.
func fresh(c api.Config, f api.Frame) telling {
	if int(f.N) >= c.Cap {
		return at(f, 22)
	}
	if f.P >= f.N {
		return at(f, 7)
	}
	f.I = f.N
	return at(f, 5)
}

func on(c api.Config, f api.Frame) telling {
	f.J++
	if int(f.J) >= c.Chunk {
		return at(f, 16)
	}
	return theNextOne(f)
}

func theNextOne(f api.Frame) telling {
	if f.P+1 >= f.N {
		return at(f, 20)
	}
	f.P++
	return at(f, 17)
}

func up(c api.Config, f api.Frame) telling {
	if int(f.H) == topOf(c) {
		return at(f, map[uint8]uint8{4: 24, 5: 25}[f.Kind])
	}
	power := 1
	f.H++
	for range f.H {
		power *= c.Node
	}
	f.I = f.P / uint8(power)
	if int(f.I) < itemsOf(int(f.N), c.Node, int(f.H)) {
		return at(f, 9)
	}
	return clears(c, f)
}

func clears(c api.Config, f api.Frame) telling {
	n, h := int(f.N), int(f.H)
	if f.Kind == 5 && itemsOf(min(n+1, c.Cap), c.Node, h) > itemsOf(n, c.Node, h) {
		return at(f, 12)
	}
	return up(c, f)
}

// wantAfter is the table's fourth column.
func wantAfter(c api.Config, f api.Frame, l api.Cell) telling {
	taken := f
	taken.X, taken.Y = uint32(l.A%(1<<32)), uint32(l.B%(1<<32))
	items := itemsOf(int(f.N), c.Node, int(f.H))
	switch f.Pc {
	case 0:
		f.N = uint8(min(l.A, uint64(c.Cap)))
		if f.N == 0 {
			return none(c, f)
		}
		f.H, f.I = uint8(topOf(c)), 0
		return at(f, 1)
	case 1:
		if l.A >= uint64(f.A) && f.H == 0 {
			taken.P = f.I
			return found(c, taken)
		}
		if l.A >= uint64(f.A) {
			f.H, f.I = f.H-1, f.I*uint8(c.Node)
			return at(f, 1)
		}
		f.I++
		if int(f.I)%c.Node == 0 || int(f.I) >= items {
			f.I--
			return none(c, f)
		}
		return at(f, 1)
	case 3:
		return tell(at(taken, 20))
	case 4:
		return at(f, 23)
	case 5:
		return at(taken, 6)
	case 6:
		f.I--
		if f.I <= f.P {
			return at(f, 7)
		}
		return at(f, 5)
	case 7:
		f.N++
		return at(f, 8)
	case 8:
		f.H = 0
		return up(c, f)
	case 9:
		return at(taken, 11)
	case 11:
		f.I++
		if int(f.I) < items {
			return at(f, 9)
		}
		return clears(c, f)
	case 12:
		return up(c, f)
	case 13:
		return at(taken, 14)
	case 14:
		f.I++
		if f.I >= f.N {
			return at(f, 15)
		}
		return at(f, 13)
	case 15:
		f.N--
		return at(f, 8)
	case 16:
		f.J = 0
		return theNextOne(f)
	case 17:
		if taken.X <= f.B {
			return tell(on(c, taken))
		}
		return at(taken, 20)
	}
	return telling{f: f}
}

// wantRow is what After tells beside the frame.
func (x telling) wantRow() api.Row {
	if !x.told {
		return api.Row{}
	}
	return api.Row{K: uint64(x.f.X), V: uint64(x.f.Y)}
}
