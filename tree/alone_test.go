package tree_test

import (
	"math"
	"slices"
	"testing"

	"bascule/api"
	"bascule/order"
	"bascule/reg"
	"bascule/tree"
)

func put(key, value uint32) api.Op { return api.Op{Kind: api.OpPut, A: key, B: value} }

func takeOut(key uint32) api.Op { return api.Op{Kind: api.OpDelete, A: key} }

func get(key uint32) api.Op { return api.Op{Kind: api.OpGet, A: key} }

func floor(key uint32) api.Op { return api.Op{Kind: api.OpFloor, A: key} }

func scan(first, last uint32) api.Op { return api.Op{Kind: api.OpScan, A: first, B: last} }

func read(at int) api.Act { return api.Act{Kind: api.ActRead, At: at} }

func write(at int, a, b uint64) api.Act { return api.Act{Kind: api.ActWrite, At: at, A: a, B: b} }

// bound is how many acts there are at most, but for that which ends them.
func bound(c api.Config, kind uint8) int {
	get := 1 + c.Node*(topOf(c)+1)
	switch kind {
	case api.OpGet:
		return get
	case api.OpFloor:
		return get + 1
	case api.OpScan:
		return get + 2*c.Cap
	}
	return get + 4*c.Cap + 20
}

// instance is one that stands alone; the tags are another layer's, and stay.
type instance struct {
	c     api.Config
	cells []api.Cell
}

func newInstance(c api.Config) instance {
	x := instance{c: c, cells: make([]api.Cell, sizeOf(c))}
	for i := range x.cells {
		x.cells[i].Tag = uint64(100 + i)
	}
	return x
}

// laid is the instance that means rows, put together by the chapter's words: an item has the greatest key of those below that it is for.
func laid(c api.Config, rows []api.Row) []api.Cell {
	l := newInstance(c).cells
	l[0].A = uint64(len(rows))
	for i, r := range rows {
		l[1+i].A, l[1+i].B = r.K, r.V
		for h := 1; h <= topOf(c); h++ {
			item := offset(c, h, i/int(math.Pow(float64(c.Node), float64(h))))
			l[item].A = max(l[item].A, r.K)
		}
	}
	return l
}

// done is what an operation did alone: its acts, the last one too, and its rows, with how many there were ahead of each give.
type done struct {
	acts  []api.Act
	rows  []api.Row
	given []int
}

func (d done) end() api.Act {
	return d.acts[len(d.acts)-1]
}

// do does an operation alone, act by act.
func (x instance) do(t *testing.T, o api.Op) done {
	t.Helper()
	var d done
	for f := reg.Start(o); ; {
		a, e := tree.Next(x.c, f)
		if e != api.OK || len(d.acts) > bound(x.c, o.Kind) {
			t.Fatalf("%v of %v: %d behind %v", o, x.cells, e, d.acts)
		}
		if d.acts = append(d.acts, a); a.Kind == api.ActDone {
			return d
		}
		l := &x.cells[a.At]
		switch a.Kind {
		case api.ActWrite:
			*l = api.Cell{Tag: l.Tag, A: a.A, B: a.B, C: a.C}
		case api.ActGive:
			d.given = append(d.given, len(d.rows))
		}
		g, r, told, _ := tree.After(x.c, f, *l)
		if f = g; told {
			d.rows = append(d.rows, r)
		}
	}
}

// checkAlone does an operation on an instance that means rows, and holds it against the model; it answers the rows behind it.
func checkAlone(t *testing.T, x instance, rows []api.Row, o api.Op) []api.Row {
	t.Helper()
	d := x.do(t, o)
	out, r, e := order.Do(x.c, rows, o)
	if e != api.OK || d.end() != (api.Act{Kind: api.ActDone, Code: r.Code, V: r.V}) || !slices.Equal(d.rows, r.Rows) {
		t.Fatalf("Cap %d, Node %d: %v of %v tells %+v, %v, and the model %v, %d", x.c.Cap, x.c.Node, o, rows, d.end(), d.rows, r, e)
	}
	if want := laid(x.c, out); !slices.Equal(x.cells, want) {
		t.Fatalf("Cap %d, Node %d: %v of %v leaves %v, not %v", x.c.Cap, x.c.Node, o, rows, x.cells, want)
	}
	wrote := slices.ContainsFunc(d.acts, func(a api.Act) bool { return a.Kind == api.ActWrite })
	if writes := o.Kind == api.OpPut || o.Kind == api.OpDelete; wrote != (writes && r.Code == api.OK) {
		t.Fatalf("%v of %v: %v", o, rows, d.acts)
	}
	if want := chunks(x.c, len(d.rows)); !slices.Equal(d.given, want) && o.Kind == api.OpScan || o.Kind != api.OpScan && d.given != nil {
		t.Fatalf("Chunk %d: %v of %v gives out behind %v rows, not behind %v", x.c.Chunk, o, rows, d.given, want)
	}
	return out
}

// chunks are how many rows there are behind each whole chunk of so many.
func chunks(c api.Config, rows int) []int {
	var l []int
	for n := c.Chunk; n <= rows; n += c.Chunk {
		l = append(l, n)
	}
	return l
}

// three are the rows of the chapter's examples.
var three = []api.Row{{K: 2, V: 20}, {K: 5, V: 50}, {K: 9, V: 90}}

// P13.3: the chapter's examples, act by act.
func TestExamples(t *testing.T) {
	for _, x := range []struct {
		o    api.Op
		want []api.Act
		rows []api.Row
	}{
		{get(5), []api.Act{read(0), read(4), read(1), read(2), {Kind: api.ActDone, V: 51}}, nil},
		{floor(6), []api.Act{read(0), read(4), read(5), read(3), read(2), {Kind: api.ActDone}}, three[1:2]},
		{takeOut(2), []api.Act{
			read(0), read(4), read(1), read(2), write(1, 5, 50), read(3), write(2, 9, 90), write(3, 0, 0), write(0, 2, 0),
			read(2), write(4, 9, 0), write(5, 0, 0), {Kind: api.ActDone, V: 21},
		}, nil},
	} {
		d := instance{c: example, cells: laid(example, three)}.do(t, x.o)
		if !slices.Equal(d.acts, x.want) || !slices.Equal(d.rows, x.rows) {
			t.Errorf("%v: %v, %v", x.o, d.acts, d.rows)
		}
	}
}

// P13.3: other operations on that instance, and on one of five rows of Cap 7, act by act.
func TestActsOnAnInstance(t *testing.T) {
	give := api.Act{Kind: api.ActGive}
	over := api.Act{Kind: api.ActDone}
	five := append(slices.Clone(three), api.Row{K: 11, V: 110}, api.Row{K: 14, V: 140})
	for _, x := range []struct {
		c    api.Config
		rows []api.Row
		o    api.Op
		want []api.Act
	}{
		{example, nil, get(0), []api.Act{read(0), {Kind: api.ActDone, Code: api.ErrNone}}},
		{example, nil, floor(maxValue), []api.Act{read(0), {Kind: api.ActDone, Code: api.ErrNone}}},
		{example, nil, scan(0, maxValue), []api.Act{read(0), over}},
		{example, nil, put(5, 50), []api.Act{read(0), write(1, 5, 50), write(0, 1, 0), read(1), write(4, 5, 0), over}},
		{example, three, put(5, 7), []api.Act{read(0), read(4), read(1), read(2), write(2, 5, 7), {Kind: api.ActDone, V: 51}}},
		{example, three, put(6, 7), []api.Act{read(0), read(4), read(5), read(3), {Kind: api.ActDone, Code: api.ErrFull}}},
		{example, three, takeOut(6), []api.Act{read(0), read(4), read(5), read(3), {Kind: api.ActDone, Code: api.ErrNone}}},
		{example, three, takeOut(9), []api.Act{read(0), read(4), read(5), read(3), write(3, 0, 0), write(0, 2, 0), write(5, 0, 0), {Kind: api.ActDone, V: 91}}},
		{example, three, get(10), []api.Act{read(0), read(4), read(5), {Kind: api.ActDone, Code: api.ErrNone}}},
		{example, three, floor(10), []api.Act{read(0), read(4), read(5), read(3), over}},
		{example, three, floor(1), []api.Act{read(0), read(4), read(1), {Kind: api.ActDone, Code: api.ErrNone}}},
		{example, three, scan(3, 9), []api.Act{read(0), read(4), read(1), read(2), give, read(3), give, over}},
		{example, three, scan(3, 8), []api.Act{read(0), read(4), read(1), read(2), give, read(3), over}},
		{example, three, scan(9, 3), []api.Act{read(0), read(4), read(5), read(3), over}},
		{seven, five, scan(0, 11), []api.Act{read(0), read(12), read(8), read(1), read(2), give, read(3), read(4), give, read(5), over}},
		{seven, five, put(6, 60), []api.Act{
			read(0), read(12), read(8), read(9), read(3), read(5), write(6, 14, 140), read(4), write(5, 11, 110), read(3), write(4, 9, 90),
			write(3, 6, 60), write(0, 6, 0), read(4), write(9, 9, 0), read(6), write(10, 14, 0), read(9), write(12, 9, 0), read(10), write(13, 14, 0), over,
		}},
		{seven, five, put(15, 150), []api.Act{
			read(0), read(12), read(13), write(6, 15, 150), write(0, 6, 0), read(6), write(10, 15, 0), read(10), write(13, 15, 0), over,
		}},
		{seven, five, takeOut(14), []api.Act{
			read(0), read(12), read(13), read(10), read(5), write(5, 0, 0), write(0, 4, 0), write(10, 0, 0), write(13, 0, 0), {Kind: api.ActDone, V: 141},
		}},
	} {
		if d := (instance{c: x.c, cells: laid(x.c, x.rows)}).do(t, x.o); !slices.Equal(d.acts, x.want) {
			t.Errorf("%v of %v: %v, not %v", x.o, x.rows, d.acts, x.want)
		}
	}
}

// longest is how many acts a frame has ahead of it at most, whatever it reads out of some cells.
type longest struct {
	c     api.Config
	cells []api.Cell
	known map[api.Frame]int
}

func (x longest) from(t *testing.T, f api.Frame, sofar int) int {
	t.Helper()
	if n, ok := x.known[f]; ok {
		return n
	}
	a, e := tree.Next(x.c, f)
	if e != api.OK || sofar > bound(x.c, f.Kind) {
		t.Fatalf("Cap %d, Node %d, Chunk %d: %+v behind %d acts: %+v, %d", x.c.Cap, x.c.Node, x.c.Chunk, f, sofar, a, e)
	}
	if a.Kind == api.ActDone {
		return 0
	}
	may := []uint8{api.ActRead}
	switch f.Kind {
	case api.OpPut, api.OpDelete:
		may = append(may, api.ActWrite)
	case api.OpScan:
		may = append(may, api.ActGive)
	}
	if a.At < 0 || a.At >= sizeOf(x.c) || !slices.Contains(may, a.Kind) {
		t.Fatalf("%+v does %+v", f, a)
	}
	most := 0
	for _, l := range x.cells {
		g, _, _, _ := tree.After(x.c, f, l)
		most = max(most, 1+x.from(t, g, sofar+1))
	}
	x.known[f] = most
	return most
}

// met has how many acts an operation of each kind has at most, whatever it reads.
func met(t *testing.T, c api.Config) map[uint8]int {
	t.Helper()
	m := map[uint8]int{}
	for _, o := range []api.Op{put(3, 5), takeOut(3), get(3), floor(3), scan(3, 9)} {
		cells := []api.Cell{{}, {A: 1}, {A: 2, B: 1}, {A: 3, B: 1}, {A: 4, B: 1}, {A: uint64(c.Cap) - 1, B: 1}, {A: math.MaxUint64, B: 1}}
		x := longest{c: c, cells: cells, known: map[api.Frame]int{}}
		m[o.Kind] = x.from(t, reg.Start(o), 0)
		if m[o.Kind] > bound(c, o.Kind) {
			t.Errorf("%v of Cap %d, Node %d, Chunk %d has %d acts", o, c.Cap, c.Node, c.Chunk, m[o.Kind])
		}
	}
	return m
}

// P13.3: whatever it reads, a program is done in time, goes on by frames that may be, and stays at its cells.
func TestWhateverItReads(t *testing.T) {
	for _, most := range []int{1, 2, 3, 4, 5, 7, 9, 16, 17} {
		for wide := 2; wide <= 4; wide++ {
			for _, chunk := range []int{1, 3} {
				met(t, sized(most, wide, chunk))
			}
		}
	}
	for wide := 2; wide <= 4; wide++ {
		met(t, sized(32, wide, 8))
	}
}

// P13.3: where each item above is for as many as it may be, the bounds of OpGet and OpFloor are met.
func TestBoundsAreMet(t *testing.T) {
	for _, c := range []api.Config{sized(2, 2, 1), sized(4, 2, 1), sized(16, 2, 1), sized(27, 3, 1), sized(16, 4, 1)} {
		m := met(t, c)
		if m[api.OpGet] != bound(c, api.OpGet) || m[api.OpFloor] != bound(c, api.OpFloor) {
			t.Errorf("of Cap %d, Node %d there are %v acts at most", c.Cap, c.Node, m)
		}
	}
}

// fitting has all operations that fit, of some keys and values.
func fitting(keys, values []uint32) []api.Op {
	var l []api.Op
	for _, key := range keys {
		l = append(l, takeOut(key), get(key), floor(key))
		for _, value := range values {
			l = append(l, put(key, value))
		}
		for _, last := range keys {
			l = append(l, scan(key, last))
		}
	}
	return l
}

// edges are keys at both ends, side by side and apart; asked are those and such as stand between.
var (
	edges = []uint32{0, 1, 3, 65536, maxValue}
	asked = []uint32{0, 1, 2, 3, 4, 65536, maxValue - 1, maxValue}
)

// P13.3: every operation of few keys, on every index there is of them, held against the model.
func TestEveryInstanceOfFewKeys(t *testing.T) {
	ops := fitting(asked, []uint32{0, maxValue})
	for most := 1; most <= len(edges)+1; most++ {
		for wide := 2; wide <= 4; wide++ {
			c := sized(most, wide, 1+(most+wide)%3)
			for set := range 1 << len(edges) {
				var rows []api.Row
				for i, key := range edges {
					if set>>i&1 == 1 {
						rows = append(rows, api.Row{K: uint64(key), V: maxValue - uint64(key)})
					}
				}
				if len(rows) > most {
					continue
				}
				for _, o := range ops {
					checkAlone(t, instance{c: c, cells: laid(c, rows)}, rows, o)
				}
			}
		}
	}
}

// someOp is one that fits, told by a number, of keys below many.
func someOp(many uint32, n uint64) api.Op {
	key, other := uint32(n>>40)%many, uint32(n>>20)
	switch n >> 33 % 9 {
	case 0, 1, 2, 3:
		return put(key, other%(maxValue+1))
	case 4, 5:
		return takeOut(key)
	case 6:
		return get(key)
	case 7:
		return floor(key)
	}
	return scan(key, other%many)
}

// P13.3: many operations one behind the other, from noughts on, of all sizes: what they leave and answer is the model's.
func TestAloneFromNoughtsOn(t *testing.T) {
	n := uint64(7)
	for most := 1; most <= 32; most++ {
		for wide := 2; wide <= 4; wide++ {
			c := sized(most, wide, 1+most%8)
			x, full := newInstance(c), 0
			var rows []api.Row
			for range 300 {
				n = next(n)
				rows = checkAlone(t, x, rows, someOp(uint32(2*most+3), n))
				full = max(full, len(rows))
			}
			if full < most*2/3 {
				t.Errorf("of Cap %d, Node %d there were %d rows at most", most, wide, full)
			}
		}
	}
}

// P13.3: an index is filled up to Cap from behind, so that every entry is moved each time, and emptied from the front; keys and values go up to their limit.
func TestFilledAndEmptied(t *testing.T) {
	for most := 1; most <= 32; most++ {
		for wide := 2; wide <= 4; wide++ {
			c := sized(most, wide, 8)
			x := newInstance(c)
			var rows []api.Row
			for i := range uint32(most) {
				rows = checkAlone(t, x, rows, put(maxValue-2*i, maxValue-i))
			}
			last := maxValue - 2*uint32(most-1)
			for _, o := range []api.Op{put(0, 1), put(maxValue-1, 1), put(maxValue, 0), put(last, 9), takeOut(0), get(maxValue), floor(maxValue - 1), scan(0, maxValue)} {
				rows = checkAlone(t, x, rows, o)
			}
			for i := range uint32(most) {
				rows = checkAlone(t, x, rows, takeOut(last+2*i))
			}
			if len(rows) != 0 || !slices.Equal(x.cells, newInstance(c).cells) {
				t.Error(rows, x.cells)
			}
		}
	}
}
