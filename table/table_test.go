package table_test

import (
	"maps"
	"math"
	"slices"
	"testing"

	"bascule/api"
	"bascule/op"
	"bascule/table"
)

// example is the chapter's config.
var example = api.Config{Object: api.ObjRoute, Instances: 2, Threads: 1, Kind: api.KindSlots, Bits: 3, Cap: 2, Batch: 1, Limit: 131072}

const maxHop = 2147483647

func sized(bits, most int) api.Config {
	c := example
	c.Bits, c.Cap = bits, most
	return c
}

func insert(number, length, hop uint32) api.Op {
	return api.Op{Kind: api.OpInsert, A: number, B: length, C: hop}
}

func remove(number, length uint32) api.Op {
	return api.Op{Kind: api.OpRemove, A: number, B: length}
}

func lookup(key uint32) api.Op {
	return api.Op{Kind: api.OpLookup, A: key}
}

// routes are what a table means, by the chapter's words: hops by the bits of prefixes, which are texts of 0 and 1. The program knows no such texts.
type routes map[string]uint64

func bitsOf(number uint64, length int) string {
	text := ""
	for range length {
		text = string("01"[number%2]) + text
		number /= 2
	}
	return text
}

// readRoutes goes the way back from rows: a node's number, written in bits, has a 1 ahead of its prefix.
func readRoutes(l []api.Row) routes {
	m := routes{}
	for _, r := range l {
		length := 0
		for first := uint64(2); first <= r.K; first *= 2 {
			length++
		}
		m[bitsOf(r.K, length+1)[1:]] = r.V
	}
	return m
}

func (m routes) rows() []api.Row {
	var l []api.Row
	for text, hop := range m {
		node := uint64(1)
		for _, bit := range text {
			node = 2*node + uint64(bit-'0')
		}
		l = append(l, api.Row{K: node, V: hop})
	}
	slices.SortFunc(l, func(a, b api.Row) int { return int(a.K) - int(b.K) })
	return l
}

// do is what the chapter says of an operation that fits.
func (m routes) do(c api.Config, o api.Op) (routes, api.Res) {
	out := maps.Clone(m)
	prefix := bitsOf(uint64(o.A), int(o.B))
	was, there := m[prefix]
	switch {
	case o.Kind == api.OpLookup:
		return out, m.match(bitsOf(uint64(o.A), c.Bits))
	case o.Kind == api.OpRemove && !there:
		return out, api.Res{Code: api.ErrNone}
	case o.Kind == api.OpRemove:
		delete(out, prefix)
	case !there && len(m) == c.Cap:
		return out, api.Res{Code: api.ErrFull}
	default:
		out[prefix] = uint64(o.C)
	}
	if there {
		return out, api.Res{V: uint32(was + 1)}
	}
	return out, api.Res{}
}

func (m routes) match(key string) api.Res {
	longest, r := -1, api.Res{Code: api.ErrNone}
	for prefix, hop := range m {
		if len(prefix) > longest && len(prefix) <= len(key) && key[:len(prefix)] == prefix {
			longest, r = len(prefix), api.Res{V: uint32(hop + 1)}
		}
	}
	return r
}

func sameRes(a, b api.Res) bool {
	return a.Code == b.Code && a.V == b.V && len(a.Rows) == 0 && len(b.Rows) == 0
}

// checkDo asks Do of an operation that fits, and holds it against the chapter's words; it answers the rows behind it.
func checkDo(t *testing.T, c api.Config, l []api.Row, o api.Op) []api.Row {
	t.Helper()
	m, want := readRoutes(l).do(c, o)
	out, r, e := table.Do(c, l, o)
	if e != api.OK || !sameRes(r, want) || !slices.Equal(out, m.rows()) {
		t.Fatalf("Do of Bits %d, Cap %d, %v, %v = %v, %v, %d, not %v, %v", c.Bits, c.Cap, l, o, out, r, e, m.rows(), want)
	}
	if !table.Is(c, out) {
		t.Fatalf("Do of %v, %v answers %v, which may not be a table's", l, o, out)
	}
	return out
}

// fitting has all operations that fit, of a config and some hops.
func fitting(c api.Config, hops ...uint32) []api.Op {
	var l []api.Op
	for length := range uint32(c.Bits) + 1 {
		for number := range uint32(1) << length {
			l = append(l, remove(number, length))
			for _, hop := range hops {
				l = append(l, insert(number, length, hop))
			}
		}
	}
	for key := range uint32(1) << c.Bits {
		l = append(l, lookup(key))
	}
	return l
}

// everyTable has all tables of a config, whose hops tell the nodes.
func everyTable(c api.Config) [][]api.Row {
	var all [][]api.Row
	nodes := 1<<(c.Bits+1) - 1
	for set := range 1 << nodes {
		var l []api.Row
		for node := 1; node <= nodes; node++ {
			if set>>(node-1)&1 == 1 {
				l = append(l, api.Row{K: uint64(node), V: uint64(10 * node)})
			}
		}
		if len(l) <= c.Cap {
			all = append(all, l)
		}
	}
	return all
}

// P6.1: the chapter's examples.
func TestExamples(t *testing.T) {
	both := []api.Row{{K: 1, V: 4}, {K: 13, V: 7}}
	one := []api.Row{{K: 13, V: 7}}
	for _, x := range []struct {
		l    []api.Row
		o    api.Op
		out  []api.Row
		code api.Errno
		v    uint32
	}{
		{nil, insert(5, 3, 7), one, api.OK, 0},
		{both, lookup(5), both, api.OK, 8},
		{both, lookup(4), both, api.OK, 5},
		{both, insert(2, 2, 0), both, api.ErrFull, 0},
		{both, insert(5, 3, 9), []api.Row{{K: 1, V: 4}, {K: 13, V: 9}}, api.OK, 8},
		{both, remove(0, 0), one, api.OK, 5},
		{one, lookup(4), one, api.ErrNone, 0},
	} {
		out, r, e := table.Do(example, x.l, x.o)
		if e != api.OK || r.Code != x.code || r.V != x.v || len(r.Rows) != 0 || !slices.Equal(out, x.out) {
			t.Errorf("Do(%v, %v) = %v, %v, %d", x.l, x.o, out, r, e)
		}
	}
}

// P6.1: every operation that fits, on every table there is of keys of one bit and of two, of each Cap.
func TestDoEverywhereOfFewBits(t *testing.T) {
	for bits := 1; bits <= 2; bits++ {
		for most := 1; most <= 8; most++ {
			c := sized(bits, most)
			for _, l := range everyTable(c) {
				for _, o := range fitting(c, 0, 3, maxHop) {
					checkDo(t, c, l, o)
				}
			}
		}
	}
}

// P6.1: every look-up on every table of keys of three bits.
func TestLookupEverywhereOfThreeBits(t *testing.T) {
	c := sized(3, 15)
	for _, l := range everyTable(c) {
		m := readRoutes(l)
		for key := range uint64(8) {
			want := m.match(bitsOf(key, 3))
			if out, r, e := table.Do(c, l, lookup(uint32(key))); e != api.OK || !sameRes(r, want) || !slices.Equal(out, l) {
				t.Fatalf("Do(%v, look-up of %d) = %v, %v, %d, not %v", l, key, out, r, e, want)
			}
		}
	}
}

// next is a number behind another one, in an order that looks like none.
func next(n uint64) uint64 {
	return n*6364136223846793005 + 1442695040888963407
}

// someOp is one of a config that fits, told by a number.
func someOp(c api.Config, n uint64) api.Op {
	length := uint32(n >> 60 % uint64(c.Bits+1))
	number := uint32(n>>40) % (1 << length)
	switch n >> 34 % 8 {
	case 0, 1, 2:
		return insert(number, length, uint32(n>>20)%(maxHop+1))
	case 3, 4:
		return remove(number, length)
	}
	return lookup(uint32(n>>40) % (1 << c.Bits))
}

// P6.1, P6.3: long rows of operations, of each number of bits and of small and great Caps; each goes on where the one ahead of it ended.
func TestDoLongRows(t *testing.T) {
	n := uint64(6)
	for bits := 1; bits <= 6; bits++ {
		for _, most := range []int{1, 2, 3, 7, 31, 32} {
			c := sized(bits, most)
			var l []api.Row
			for range 2000 {
				n = next(n)
				l = checkDo(t, c, l, someOp(c, n))
			}
		}
	}
}

// P6.1: what stands at the limits: a hop of MaxValue, whose word goes beyond it, one of 0, and the deepest, longest table.
func TestDoAtTheLimits(t *testing.T) {
	c := sized(6, 32)
	l := checkDo(t, c, nil, insert(63, 6, maxHop))
	if _, r, _ := table.Do(c, l, lookup(63)); r.V != 1<<31 {
		t.Errorf("the word of the hop MaxValue is %d", r.V)
	}
	if _, r, _ := table.Do(c, []api.Row{{K: 127}}, lookup(63)); r.V != 1 || r.Code != api.OK {
		t.Errorf("the word of the hop 0 is %d, with the code %d", r.V, r.Code)
	}
	for number := range uint32(31) {
		l = checkDo(t, c, l, insert(number, 6, number))
	}
	if len(l) != 32 {
		t.Fatal(l)
	}
	for _, o := range fitting(c, 0, maxHop) {
		checkDo(t, c, l, o)
	}
}

// P6.1: up to Cap rows all are put in; behind that none is, but a prefix that is there is turned still.
func TestInsertWhereThereAreCapRows(t *testing.T) {
	for most := 1; most <= 31; most++ {
		c := sized(5, most)
		var l []api.Row
		for number := range uint32(most) {
			l = checkDo(t, c, l, insert(number, 5, number))
		}
		if out, r, e := table.Do(c, l, insert(31, 5, 1)); e != api.OK || r.Code != api.ErrFull || r.V != 0 || !slices.Equal(out, l) {
			t.Errorf("Cap %d: %v, %v, %d", most, out, r, e)
		}
		if out, r, e := table.Do(c, l, insert(0, 5, 77)); e != api.OK || r.Code != api.OK || r.V != 1 || out[0].V != 77 || len(out) != most {
			t.Errorf("Cap %d: %v, %v, %d", most, out, r, e)
		}
	}
}

// badConfigs are no tables': of other objects, or such as may not be.
func badConfigs() []api.Config {
	l := []api.Config{{}, {Object: api.ObjRoute}, {Object: api.ObjRoute, Bits: math.MinInt}}
	for _, put := range []func(c *api.Config){
		func(c *api.Config) { c.Object, c.Bits, c.Node, c.Chunk = api.ObjIndex, 0, 2, 1 },
		func(c *api.Config) { c.Object, c.Bits = api.ObjAccess, 0 },
		func(c *api.Config) { c.Object, c.Bits = api.ObjConfig, 0 },
		func(c *api.Config) { c.Object = 0 },
		func(c *api.Config) { c.Object = 5 },
		func(c *api.Config) { c.Instances = 1 },
		func(c *api.Config) { c.Instances = 5 },
		func(c *api.Config) { c.Threads = 0 },
		func(c *api.Config) { c.Kind = 0 },
		func(c *api.Config) { c.Stripes = 1 },
		func(c *api.Config) { c.Bits = 0 },
		func(c *api.Config) { c.Bits = 7 },
		func(c *api.Config) { c.Bits = -1 },
		func(c *api.Config) { c.Bits = 62 },
		func(c *api.Config) { c.Bits = math.MaxInt },
		func(c *api.Config) { c.Cap = 0 },
		func(c *api.Config) { c.Cap = 33 },
		func(c *api.Config) { c.Node = 2 },
		func(c *api.Config) { c.Batch = 17 },
		func(c *api.Config) { c.Chunk = 1 },
		func(c *api.Config) { c.Limit = 131071 },
		func(c *api.Config) { c.Most = 1 },
	} {
		c := example
		put(&c)
		l = append(l, c)
	}
	return l
}

func checkRefused(t *testing.T, c api.Config, l []api.Row, o api.Op, want api.Errno) {
	t.Helper()
	if out, r, e := table.Do(c, l, o); e != want || len(out) != 0 || !sameRes(r, api.Res{}) {
		t.Errorf("Do(%+v, %v, %v) = %v, %v, %d, not %d", c, l, o, out, r, e, want)
	}
}

// P6.1, P1: a config that may not be, or is another object's, is told ahead of bad rows and of bad operations.
func TestBadConfigs(t *testing.T) {
	for _, c := range badConfigs() {
		for _, l := range [][]api.Row{nil, {}, {{K: 13, V: 7}}, {{K: 0}}, {{K: 2}, {K: 1}}} {
			if table.Is(c, l) {
				t.Errorf("Is(%+v, %v)", c, l)
			}
			for _, o := range []api.Op{{}, lookup(5), lookup(8), insert(5, 3, 7), {Kind: api.OpGet, A: 1}} {
				checkRefused(t, c, l, o, api.ErrConf)
			}
		}
	}
}

// P6.1: what may be a table's, and what may not, of Bits 3 and Cap 2.
func TestIs(t *testing.T) {
	for _, x := range []struct {
		l    []api.Row
		want bool
	}{
		{nil, true},
		{[]api.Row{}, true},
		{[]api.Row{{K: 1}}, true},
		{[]api.Row{{K: 15, V: maxHop}}, true},
		{[]api.Row{{K: 1, V: maxHop}, {K: 2}}, true},
		{[]api.Row{{K: 14}, {K: 15}}, true},
		{[]api.Row{{K: 0}}, false},
		{[]api.Row{{K: 16}}, false},
		{[]api.Row{{K: 1 << 32}}, false},
		{[]api.Row{{K: 1<<63 + 1}}, false},
		{[]api.Row{{K: math.MaxUint64}}, false},
		{[]api.Row{{K: 0}, {K: 1}}, false},
		{[]api.Row{{K: 1}, {K: 16}}, false},
		{[]api.Row{{K: 1}, {K: 1}}, false},
		{[]api.Row{{K: 2}, {K: 1}}, false},
		{[]api.Row{{K: 13, V: maxHop + 1}}, false},
		{[]api.Row{{K: 13, V: 1 << 32}}, false},
		{[]api.Row{{K: 13, V: math.MaxUint64}}, false},
		{[]api.Row{{K: 12}, {K: 13, V: maxHop + 1}}, false},
		{[]api.Row{{K: 1}, {K: 2}, {K: 3}}, false},
	} {
		if got := table.Is(example, x.l); got != x.want {
			t.Errorf("Is(%v) = %v", x.l, got)
		}
		if !x.want {
			for _, o := range []api.Op{{}, lookup(5), lookup(8), insert(5, 3, 7), remove(5, 3), {Kind: api.OpGet, A: 1}} {
				checkRefused(t, example, x.l, o, api.ErrArg)
			}
		}
	}
}

// P6.1: of each number of bits the nodes that a row may have; and of each Cap how many rows.
func TestIsOfEverySize(t *testing.T) {
	for bits, nodes := range []uint64{0, 4, 8, 16, 32, 64, 128} {
		if bits == 0 {
			continue
		}
		for node := range uint64(300) {
			want := node >= 1 && node < nodes
			if got := table.Is(sized(bits, 1), []api.Row{{K: node, V: 3}}); got != want {
				t.Errorf("Is of Bits %d and the node %d: %v", bits, node, got)
			}
		}
	}
	for most := 1; most <= 32; most++ {
		var l []api.Row
		for many := range 40 {
			if got := table.Is(sized(6, most), l); got != (many <= most) {
				t.Errorf("Is of Cap %d and %d rows: %v", most, many, got)
			}
			l = append(l, api.Row{K: uint64(many + 5)})
		}
	}
}

// P6.1: where op.Check has an error, that is the Code, and nothing is done, whatever the rows are.
func TestDoWhatDoesNotFit(t *testing.T) {
	numbers := []uint32{0, 1, 2, 3, 4, 7, 8, 15, 16, 32, 33, 65, 1 << 16, maxHop, maxHop + 1, math.MaxUint32}
	for _, l := range [][]api.Row{nil, {{K: 1, V: 4}, {K: 13, V: 7}}, {{K: 15, V: maxHop}}} {
		for kind := range 256 {
			for _, a := range numbers {
				for _, b := range numbers {
					for _, hop := range []uint32{0, 1, maxHop + 1, math.MaxUint32} {
						checkCode(t, l, api.Op{Kind: uint8(kind), A: a, B: b, C: hop})
					}
				}
			}
		}
	}
}

func checkCode(t *testing.T, l []api.Row, o api.Op) {
	t.Helper()
	code := op.Check(example, o)
	if code == api.OK {
		checkDo(t, example, l, o)
		return
	}
	if out, r, e := table.Do(example, l, o); e != api.OK || !sameRes(r, api.Res{Code: code}) || !slices.Equal(out, l) {
		t.Errorf("Do(%v, %v) = %v, %v, %d, not the code %d", l, o, out, r, e, code)
	}
}

// P6.1: the codes of what does not fit, by hand.
func TestDoTellsTheCodes(t *testing.T) {
	for _, x := range []struct {
		o    api.Op
		want api.Errno
	}{
		{api.Op{}, api.ErrOp},
		{api.Op{Kind: api.OpPut, A: 1}, api.ErrOp},
		{api.Op{Kind: 255}, api.ErrOp},
		{insert(8, 3, 1), api.ErrOver},
		{insert(0, 4, 1), api.ErrOver},
		{insert(5, 3, maxHop+1), api.ErrOver},
		{remove(1, 0), api.ErrOver},
		{api.Op{Kind: api.OpRemove, A: 5, B: 3, C: 1}, api.ErrOver},
		{lookup(8), api.ErrOver},
		{api.Op{Kind: api.OpLookup, A: 5, B: 3}, api.ErrOver},
	} {
		l := []api.Row{{K: 1, V: 4}, {K: 13, V: 7}}
		if out, r, e := table.Do(example, l, x.o); e != api.OK || !sameRes(r, api.Res{Code: x.want}) || !slices.Equal(out, l) {
			t.Errorf("Do(%v) = %v, %v, %d, not the code %d", x.o, out, r, e, x.want)
		}
	}
}

// P6.2: what is handed in is only read, also what lies behind the rows in their memory; what is answered shares none with it.
func TestDoAnswersNewMemory(t *testing.T) {
	c := sized(3, 4)
	behind := api.Row{K: 99, V: 99}
	for _, o := range append(fitting(c, 0, 9), api.Op{}, lookup(8)) {
		all := []api.Row{{K: 1, V: 4}, {K: 6, V: 5}, {K: 13, V: 7}, behind, behind}
		l := all[:3]
		kept := slices.Clone(all)
		out, _, _ := table.Do(c, l, o)
		again, _, _ := table.Do(c, l, o)
		if !slices.Equal(all, kept) {
			t.Fatalf("%v turned what it was handed to %v", o, all)
		}
		want := slices.Clone(again)
		out = out[:cap(out)]
		for i := range out {
			out[i] = api.Row{K: 77, V: 77}
		}
		if !slices.Equal(all, kept) || !slices.Equal(again, want) {
			t.Fatalf("what %v answers is other rows' memory", o)
		}
	}
}

// Rules of DOC.md: nothing is kept from call to call; asked backwards, all calls answer what they did.
func TestNothingIsKept(t *testing.T) {
	c := sized(2, 3)
	type answer struct {
		out []api.Row
		r   api.Res
	}
	var first []answer
	all, ops := everyTable(c), fitting(c, 0, 8)
	for _, l := range all {
		for _, o := range ops {
			out, r, _ := table.Do(c, l, o)
			first = append(first, answer{out, r})
		}
	}
	at := len(first)
	for _, l := range slices.Backward(all) {
		for _, o := range slices.Backward(ops) {
			at--
			if out, r, e := table.Do(c, l, o); e != api.OK || !sameRes(r, first[at].r) || !slices.Equal(out, first[at].out) {
				t.Fatalf("Do(%v, %v) = %v, %v, %d, and before %v", l, o, out, r, e, first[at])
			}
		}
	}
}

// P6.3: a code other than OK leaves the rows, and so does a look-up.
func TestWhatLeavesTheRows(t *testing.T) {
	c := sized(2, 3)
	for _, l := range everyTable(c) {
		for _, o := range append(fitting(c, 8), api.Op{}, lookup(4), insert(4, 2, 1), remove(0, 3)) {
			out, r, _ := table.Do(c, l, o)
			if (r.Code != api.OK || o.Kind == api.OpLookup) && !slices.Equal(out, l) {
				t.Errorf("Do(%v, %v) = %v, %v", l, o, out, r)
			}
		}
	}
}

// P6.3: what is put in anew, and taken out, leaves the rows; and what it was is told.
func TestPutInAndTakenOut(t *testing.T) {
	c := sized(2, 4)
	for _, l := range everyTable(c) {
		for length := range uint32(3) {
			for number := range uint32(1) << length {
				in, r, _ := table.Do(c, l, insert(number, length, 6))
				if r.Code != api.OK || r.V != 0 {
					continue
				}
				out, r, _ := table.Do(c, in, remove(number, length))
				if r.Code != api.OK || r.V != 7 || !slices.Equal(out, l) || len(in) != len(l)+1 {
					t.Errorf("%v, with %d, %d put in and taken out: %v, %v", l, number, length, out, r)
				}
			}
		}
	}
}

// P6.3: an operation of a prefix turns the row of its node alone.
func TestOtherRowsStay(t *testing.T) {
	c := sized(2, 4)
	for _, l := range everyTable(c) {
		for _, o := range fitting(c, 8) {
			if o.Kind == api.OpLookup {
				continue
			}
			node := uint64(1)<<o.B + uint64(o.A)
			others := func(l []api.Row) []api.Row {
				return slices.DeleteFunc(slices.Clone(l), func(r api.Row) bool { return r.K == node })
			}
			if out, _, _ := table.Do(c, l, o); !slices.Equal(others(out), others(l)) {
				t.Errorf("Do(%v, %v) = %v", l, o, out)
			}
		}
	}
}

// P6.3: a look-up tells the hop of a prefix that matches, by the chapter's division, and no longer one does.
func TestLookupTellsTheLongest(t *testing.T) {
	c := sized(2, 7)
	for _, l := range everyTable(c) {
		for key := range uint64(4) {
			_, r, _ := table.Do(c, l, lookup(uint32(key)))
			found := false
			for _, row := range l {
				length, number := 2, row.K-4
				if row.K < 4 {
					length, number = 1, row.K-2
				}
				if row.K < 2 {
					length, number = 0, 0
				}
				matches := number == key/uint64(math.Pow(2, float64(2-length)))
				// The hops tell the nodes, and nodes of longer prefixes are greater ones.
				if matches && uint32(row.V)+1 > r.V {
					t.Errorf("the look-up of %d in %v tells %v, but %v matches", key, l, r, row)
				}
				found = found || matches && uint32(row.V)+1 == r.V
			}
			if !found && !sameRes(r, api.Res{Code: api.ErrNone}) || found && r.Code != api.OK {
				t.Errorf("the look-up of %d in %v tells %v", key, l, r)
			}
		}
	}
}
