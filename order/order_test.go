package order_test

import (
	"maps"
	"math"
	"slices"
	"testing"

	"bascule/api"
	"bascule/op"
	"bascule/order"
)

const maxValue = 2147483647

// example is the chapter's config.
var example = api.Config{Object: api.ObjIndex, Instances: 2, Threads: 1, Kind: api.KindSlots, Cap: 3, Node: 2, Batch: 1, Chunk: 1, Limit: 131072}

func sized(most int) api.Config {
	c := example
	c.Cap = most
	return c
}

func put(key, value uint32) api.Op { return api.Op{Kind: api.OpPut, A: key, B: value} }

func takeOut(key uint32) api.Op { return api.Op{Kind: api.OpDelete, A: key} }

func get(key uint32) api.Op { return api.Op{Kind: api.OpGet, A: key} }

func floor(key uint32) api.Op { return api.Op{Kind: api.OpFloor, A: key} }

func scan(first, last uint32) api.Op { return api.Op{Kind: api.OpScan, A: first, B: last} }

// entries are what an index means, by the chapter's words: values by keys, in no order.
type entries map[uint64]uint64

func readEntries(l []api.Row) entries {
	m := entries{}
	for _, r := range l {
		m[r.K] = r.V
	}
	return m
}

// within has the rows of keys from first to last, in order.
func (m entries) within(first, last uint64) []api.Row {
	var l []api.Row
	for key, value := range m {
		if key >= first && key <= last {
			l = append(l, api.Row{K: key, V: value})
		}
	}
	slices.SortFunc(l, func(a, b api.Row) int { return int(a.K) - int(b.K) })
	return l
}

// do is what the chapter says of an operation that fits.
func (m entries) do(c api.Config, o api.Op) (entries, api.Res) {
	out, key := maps.Clone(m), uint64(o.A)
	was, there := m[key]
	switch {
	case o.Kind == api.OpScan:
		return out, api.Res{Rows: m.within(key, uint64(o.B))}
	case o.Kind == api.OpFloor:
		below := m.within(0, key)
		if len(below) == 0 {
			return out, api.Res{Code: api.ErrNone}
		}
		return out, api.Res{Rows: below[len(below)-1:]}
	case o.Kind == api.OpPut && !there && len(m) == c.Cap:
		return out, api.Res{Code: api.ErrFull}
	case o.Kind == api.OpPut:
		out[key] = uint64(o.B)
	case !there:
		return out, api.Res{Code: api.ErrNone}
	case o.Kind == api.OpDelete:
		delete(out, key)
	}
	if there {
		return out, api.Res{V: uint32(was + 1)}
	}
	return out, api.Res{}
}

func sameRes(a, b api.Res) bool {
	return a.Code == b.Code && a.V == b.V && slices.Equal(a.Rows, b.Rows)
}

// checkDo asks Do of an operation that fits, and holds it against the chapter's words; it answers the rows behind it.
func checkDo(t *testing.T, c api.Config, l []api.Row, o api.Op) []api.Row {
	t.Helper()
	m, want := readEntries(l).do(c, o)
	rows := m.within(0, math.MaxUint64)
	out, r, e := order.Do(c, l, o)
	if e != api.OK || !sameRes(r, want) || !slices.Equal(out, rows) {
		t.Fatalf("Cap %d: Do(%v, %v) = %v, %v, %d, not %v, %v", c.Cap, l, o, out, r, e, rows, want)
	}
	if !order.Is(c, out) {
		t.Fatalf("Do(%v, %v) answers %v, which may not be an index's", l, o, out)
	}
	return out
}

// fitting has all operations that fit, of some keys and values.
func fitting(keys, values []uint32) []api.Op {
	var l []api.Op
	for _, key := range keys {
		l = append(l, takeOut(key), get(key), floor(key))
		for _, value := range values {
			l = append(l, put(key, value))
		}
		for _, last := range keys {
			l = append(l, scan(key, last))
		}
	}
	return l
}

// reads has those of fitting that only read.
func reads(keys []uint32) []api.Op {
	return slices.DeleteFunc(fitting(keys, nil), func(o api.Op) bool { return o.Kind == api.OpDelete })
}

// everyIndex has all indexes of some keys, which rise, and of a Cap; the values tell the keys.
func everyIndex(keys []uint32, most int) [][]api.Row {
	var all [][]api.Row
	for set := range 1 << len(keys) {
		var l []api.Row
		for i, key := range keys {
			if set>>i&1 == 1 {
				l = append(l, api.Row{K: uint64(key), V: uint64(key / 2)})
			}
		}
		if len(l) <= most {
			all = append(all, l)
		}
	}
	return all
}

// edges are keys at both ends, side by side and apart; asked are those and such as stand between.
var (
	edges = []uint32{0, 1, 3, 65536, maxValue - 1, maxValue}
	asked = []uint32{0, 1, 2, 3, 4, 65535, 65536, 65537, maxValue - 2, maxValue - 1, maxValue}
)

// P7.1: the chapter's examples.
func TestExamples(t *testing.T) {
	two, five, nine := api.Row{K: 2, V: 20}, api.Row{K: 5, V: 50}, api.Row{K: 9, V: 90}
	all := []api.Row{two, five, nine}
	for _, x := range []struct {
		l    []api.Row
		o    api.Op
		out  []api.Row
		want api.Res
	}{
		{nil, put(5, 50), []api.Row{five}, api.Res{}},
		{all, get(5), all, api.Res{V: 51}},
		{all, get(6), all, api.Res{Code: api.ErrNone}},
		{all, floor(6), all, api.Res{Rows: []api.Row{five}}},
		{all, floor(1), all, api.Res{Code: api.ErrNone}},
		{all, scan(3, 9), all, api.Res{Rows: []api.Row{five, nine}}},
		{all, scan(9, 3), all, api.Res{}},
		{all, put(6, 1), all, api.Res{Code: api.ErrFull}},
		{all, put(5, 1), []api.Row{two, {K: 5, V: 1}, nine}, api.Res{V: 51}},
		{all, takeOut(2), []api.Row{five, nine}, api.Res{V: 21}},
	} {
		if out, r, e := order.Do(example, x.l, x.o); e != api.OK || !sameRes(r, x.want) || !slices.Equal(out, x.out) {
			t.Errorf("Do(%v, %v) = %v, %v, %d", x.l, x.o, out, r, e)
		}
	}
}

// P7.1: every operation of few keys, on every index there is of them, of each Cap.
func TestDoEverywhereOfFewKeys(t *testing.T) {
	ops := fitting(asked, []uint32{0, 7, maxValue})
	for most := 1; most <= len(edges)+1; most++ {
		c := sized(most)
		for _, l := range everyIndex(edges, most) {
			for _, o := range ops {
				checkDo(t, c, l, o)
			}
		}
	}
}

// next is a number behind another one, in an order that looks like none.
func next(n uint64) uint64 {
	return n*6364136223846793005 + 1442695040888963407
}

// someOp is one that fits, told by a number, of keys below many.
func someOp(many uint32, n uint64) api.Op {
	key, other := uint32(n>>40)%many, uint32(n>>20)
	switch n >> 33 % 9 {
	case 0, 1, 2, 3:
		return put(key, other%(maxValue+1))
	case 4, 5:
		return takeOut(key)
	case 6:
		return get(key)
	case 7:
		return floor(key)
	}
	return scan(key, other%many)
}

// P7.1, P7.3: long rows of operations, of small and great Caps, of keys that stand close and of such as stand far apart; each goes on where the one ahead of it ended.
func TestDoLongRows(t *testing.T) {
	n := uint64(7)
	for _, most := range []int{1, 2, 3, 7, 16, 31, 32} {
		for _, many := range []uint32{5, 40, 65537, maxValue + 1} {
			var l []api.Row
			for range 2000 {
				n = next(n)
				l = checkDo(t, sized(most), l, someOp(many, n))
			}
		}
	}
}

// P7.1: only Cap counts of a config of ObjIndex that may be.
func TestDoOfOtherConfigs(t *testing.T) {
	for _, put := range []func(c *api.Config){
		func(c *api.Config) { c.Instances, c.Threads, c.Batch = 4, 16, 16 },
		func(c *api.Config) { c.Node, c.Chunk = 4, 8 },
		func(c *api.Config) { c.Limit = 1 << 62 },
		func(c *api.Config) { c.Kind, c.Stripes, c.Most = api.KindStripes, 4, 1 },
	} {
		c := example
		put(&c)
		for _, l := range everyIndex(edges, c.Cap) {
			for _, o := range fitting(edges, []uint32{9}) {
				checkDo(t, c, l, o)
			}
		}
	}
}

// P7.1: what stands at the limits: a value of MaxValue, whose word goes beyond it, and one of 0; the least key and the greatest one.
func TestDoAtTheLimits(t *testing.T) {
	l := []api.Row{{K: 0, V: 0}, {K: maxValue, V: maxValue}}
	for _, x := range []struct {
		o    api.Op
		want api.Res
	}{
		{get(0), api.Res{V: 1}},
		{get(maxValue), api.Res{V: 1 << 31}},
		{put(0, maxValue), api.Res{V: 1}},
		{put(maxValue, 0), api.Res{V: 1 << 31}},
		{takeOut(0), api.Res{V: 1}},
		{takeOut(maxValue), api.Res{V: 1 << 31}},
		{floor(0), api.Res{Rows: l[:1]}},
		{floor(maxValue - 1), api.Res{Rows: l[:1]}},
		{floor(maxValue), api.Res{Rows: l[1:]}},
		{scan(0, maxValue), api.Res{Rows: l}},
		{scan(0, 0), api.Res{Rows: l[:1]}},
		{scan(1, maxValue-1), api.Res{}},
		{scan(maxValue, maxValue), api.Res{Rows: l[1:]}},
		{scan(maxValue, 0), api.Res{}},
	} {
		if _, r, e := order.Do(example, l, x.o); e != api.OK || !sameRes(r, x.want) {
			t.Errorf("Do(%v) = %v, %d, not %v", x.o, r, e, x.want)
		}
	}
}

// P7.1: up to Cap rows all are put in; behind that none is, but a key that is there gets its value still.
func TestPutWhereThereAreCapRows(t *testing.T) {
	for most := 1; most <= 32; most++ {
		c := sized(most)
		var l []api.Row
		for i := range uint32(most) {
			l = checkDo(t, c, l, put(1000-10*i, i))
		}
		if len(l) != most {
			t.Fatalf("Cap %d: %v", most, l)
		}
		for _, key := range []uint32{0, 995, 2000, maxValue} {
			if out, r, e := order.Do(c, l, put(key, 1)); e != api.OK || !sameRes(r, api.Res{Code: api.ErrFull}) || !slices.Equal(out, l) {
				t.Errorf("Cap %d: %v, %v, %d", most, out, r, e)
			}
		}
		if out, r, e := order.Do(c, l, put(1000, 77)); e != api.OK || !sameRes(r, api.Res{V: 1}) || len(out) != most || out[most-1] != (api.Row{K: 1000, V: 77}) {
			t.Errorf("Cap %d: %v, %v, %d", most, out, r, e)
		}
	}
}

// badConfigs are no index's: of other objects, or such as may not be.
func badConfigs() []api.Config {
	l := []api.Config{{}, {Object: api.ObjIndex}, {Object: api.ObjIndex, Cap: math.MinInt}}
	for _, put := range []func(c *api.Config){
		func(c *api.Config) { c.Object, c.Node, c.Chunk, c.Bits = api.ObjRoute, 0, 0, 3 },
		func(c *api.Config) { c.Object, c.Node, c.Chunk = api.ObjAccess, 0, 0 },
		func(c *api.Config) { c.Object, c.Node, c.Chunk = api.ObjConfig, 0, 0 },
		func(c *api.Config) { c.Object = 0 },
		func(c *api.Config) { c.Object = 5 },
		func(c *api.Config) { c.Instances = 1 },
		func(c *api.Config) { c.Instances = 5 },
		func(c *api.Config) { c.Threads = 17 },
		func(c *api.Config) { c.Kind = 0 },
		func(c *api.Config) { c.Stripes = 1 },
		func(c *api.Config) { c.Bits = 1 },
		func(c *api.Config) { c.Cap = 0 },
		func(c *api.Config) { c.Cap = -1 },
		func(c *api.Config) { c.Cap = 33 },
		func(c *api.Config) { c.Cap = math.MaxInt },
		func(c *api.Config) { c.Node = 1 },
		func(c *api.Config) { c.Node = 5 },
		func(c *api.Config) { c.Chunk = 0 },
		func(c *api.Config) { c.Chunk = 9 },
		func(c *api.Config) { c.Batch = 0 },
		func(c *api.Config) { c.Limit = 131071 },
		func(c *api.Config) { c.Most = 1 },
	} {
		c := example
		put(&c)
		l = append(l, c)
	}
	return l
}

func checkRefused(t *testing.T, c api.Config, l []api.Row, o api.Op, want api.Errno) {
	t.Helper()
	if out, r, e := order.Do(c, l, o); e != want || len(out) != 0 || !sameRes(r, api.Res{}) {
		t.Errorf("Do(%+v, %v, %v) = %v, %v, %d, not %d", c, l, o, out, r, e, want)
	}
}

// anyOps are such as fit and such as do not.
func anyOps() []api.Op {
	return []api.Op{{}, get(5), put(5, 7), takeOut(5), floor(6), scan(0, 9), put(maxValue+1, 0), scan(0, math.MaxUint32), {Kind: api.OpLookup, A: 1}, {Kind: 255}}
}

// P7.1, P1: a config that may not be, or is another object's, is told ahead of bad rows and of bad operations.
func TestBadConfigs(t *testing.T) {
	for _, c := range badConfigs() {
		for _, l := range [][]api.Row{nil, {}, {{K: 5, V: 50}}, {{K: 3}, {K: 3}}, {{K: maxValue + 1}}} {
			if order.Is(c, l) {
				t.Errorf("Is(%+v, %v)", c, l)
			}
			for _, o := range anyOps() {
				checkRefused(t, c, l, o, api.ErrConf)
			}
		}
	}
}

// P7.1: what may be an index's, and what may not, of Cap 3.
func TestIs(t *testing.T) {
	for _, x := range []struct {
		l    []api.Row
		want bool
	}{
		{nil, true},
		{[]api.Row{}, true},
		{[]api.Row{{}}, true},
		{[]api.Row{{K: maxValue, V: maxValue}}, true},
		{[]api.Row{{K: 0, V: maxValue}, {K: 1}}, true},
		{[]api.Row{{K: 0}, {K: 1}, {K: 2}}, true},
		{[]api.Row{{K: 2, V: 9}, {K: 5, V: 1}, {K: maxValue}}, true},
		{[]api.Row{{K: 0}, {K: 1}, {K: 2}, {K: 3}}, false},
		{[]api.Row{{}, {}}, false},
		{[]api.Row{{K: 3}, {K: 3, V: 1}}, false},
		{[]api.Row{{K: 2}, {K: 1}}, false},
		{[]api.Row{{K: 1}, {K: 3}, {K: 2}}, false},
		{[]api.Row{{K: 1}, {K: 2}, {K: 1}}, false},
		{[]api.Row{{K: maxValue}, {K: maxValue}}, false},
		{[]api.Row{{K: maxValue + 1}}, false},
		{[]api.Row{{K: 1}, {K: maxValue + 1}}, false},
		{[]api.Row{{K: 1 << 32}}, false},
		{[]api.Row{{K: 1<<32 + 5}}, false},
		{[]api.Row{{K: 1<<63 + 1}}, false},
		{[]api.Row{{K: math.MaxUint64}}, false},
		{[]api.Row{{K: math.MaxUint64}, {K: 0}}, false},
		{[]api.Row{{K: 1, V: maxValue + 1}}, false},
		{[]api.Row{{K: 1, V: 1 << 32}}, false},
		{[]api.Row{{K: 1, V: math.MaxUint64}}, false},
		{[]api.Row{{K: 1}, {K: 2, V: maxValue + 1}}, false},
	} {
		if got := order.Is(example, x.l); got != x.want {
			t.Errorf("Is(%v) = %v", x.l, got)
		}
		for _, o := range anyOps() {
			if !x.want {
				checkRefused(t, example, x.l, o, api.ErrArg)
			} else if _, _, e := order.Do(example, x.l, o); e != api.OK {
				t.Errorf("Do(%v, %v) = %d", x.l, o, e)
			}
		}
	}
}

// P7.1: of each Cap how many rows there may be.
func TestIsOfEveryCap(t *testing.T) {
	for most := 1; most <= 32; most++ {
		var l []api.Row
		for many := range 40 {
			if got := order.Is(sized(most), l); got != (many <= most) {
				t.Errorf("Is of Cap %d and %d rows: %v", most, many, got)
			}
			l = append(l, api.Row{K: uint64(many * many)})
		}
	}
}

// P7.1: where op.Check has an error, that is the Code, and nothing is done, whatever the rows are.
func TestDoWhatDoesNotFit(t *testing.T) {
	numbers := []uint32{0, 1, 2, 5, 9, 65536, maxValue, maxValue + 1, 1<<31 + 5, math.MaxUint32}
	for _, l := range [][]api.Row{nil, {{K: 2, V: 20}, {K: 5, V: 50}, {K: 9, V: 90}}, {{K: maxValue, V: maxValue}}} {
		for kind := range 256 {
			for _, a := range numbers {
				for _, b := range numbers {
					for _, third := range []uint32{0, 1, maxValue + 1, math.MaxUint32} {
						checkCode(t, l, api.Op{Kind: uint8(kind), A: a, B: b, C: third})
					}
				}
			}
		}
	}
}

func checkCode(t *testing.T, l []api.Row, o api.Op) {
	t.Helper()
	code := op.Check(example, o)
	if code == api.OK {
		checkDo(t, example, l, o)
		return
	}
	if out, r, e := order.Do(example, l, o); e != api.OK || !sameRes(r, api.Res{Code: code}) || !slices.Equal(out, l) {
		t.Errorf("Do(%v, %v) = %v, %v, %d, not the code %d", l, o, out, r, e, code)
	}
}

// P7.1: the codes of what does not fit, by hand.
func TestDoTellsTheCodes(t *testing.T) {
	l := []api.Row{{K: 2, V: 20}, {K: 5, V: 50}, {K: 9, V: 90}}
	for _, x := range []struct {
		o    api.Op
		want api.Errno
	}{
		{api.Op{}, api.ErrOp},
		{api.Op{Kind: api.OpInsert}, api.ErrOp},
		{api.Op{Kind: api.OpRead, A: 5}, api.ErrOp},
		{api.Op{Kind: 255}, api.ErrOp},
		{put(maxValue+1, 0), api.ErrOver},
		{put(5, maxValue+1), api.ErrOver},
		{api.Op{Kind: api.OpPut, A: 5, B: 1, C: 1}, api.ErrOver},
		{takeOut(maxValue + 1), api.ErrOver},
		{api.Op{Kind: api.OpDelete, A: 5, B: 1}, api.ErrOver},
		{get(1<<31 + 5), api.ErrOver},
		{api.Op{Kind: api.OpGet, A: 5, C: 1}, api.ErrOver},
		{floor(math.MaxUint32), api.ErrOver},
		{api.Op{Kind: api.OpFloor, A: 5, B: 1}, api.ErrOver},
		{scan(0, maxValue+1), api.ErrOver},
		{scan(maxValue+1, 0), api.ErrOver},
	} {
		if out, r, e := order.Do(example, l, x.o); e != api.OK || !sameRes(r, api.Res{Code: x.want}) || !slices.Equal(out, l) {
			t.Errorf("Do(%v) = %v, %v, %d, not the code %d", x.o, out, r, e, x.want)
		}
	}
}

// spoil writes over all of a list's memory, also what lies behind it.
func spoil(l []api.Row) {
	l = l[:cap(l)]
	for i := range l {
		l[i] = api.Row{K: 77, V: 77}
	}
}

// P7.2: what is handed in is only read, also what lies behind the rows in their memory; neither list that is answered shares any with it, nor with the other one.
func TestDoAnswersNewMemory(t *testing.T) {
	c, behind := sized(4), api.Row{K: 99, V: 99}
	for _, o := range append(fitting([]uint32{0, 2, 3, 5, 9, 10}, []uint32{6}), anyOps()...) {
		all := []api.Row{{K: 2, V: 20}, {K: 5, V: 50}, {K: 9, V: 90}, behind, behind}
		l, kept := all[:3], slices.Clone(all)
		out, r, _ := order.Do(c, l, o)
		again, told, _ := order.Do(c, l, o)
		if !slices.Equal(all, kept) {
			t.Fatalf("%v turned what it was handed to %v", o, all)
		}
		rows, res := slices.Clone(again), slices.Clone(told.Rows)
		spoil(out)
		if !slices.Equal(r.Rows, res) {
			t.Fatalf("%v tells rows that stand in the memory of those behind it", o)
		}
		spoil(r.Rows)
		if !slices.Equal(all, kept) || !slices.Equal(again, rows) || !slices.Equal(told.Rows, res) {
			t.Fatalf("what %v answers is other rows' memory", o)
		}
		spoil(told.Rows)
		if !slices.Equal(again, rows) {
			t.Fatalf("the rows behind %v stand in the memory of those that it tells", o)
		}
	}
}

// Rules of DOC.md: nothing is kept from call to call; asked backwards, all calls answer what they did.
func TestNothingIsKept(t *testing.T) {
	c := sized(3)
	type answer struct {
		out []api.Row
		r   api.Res
	}
	var first []answer
	all, ops := everyIndex(edges, 3), fitting(asked, []uint32{8})
	for _, l := range all {
		for _, o := range ops {
			out, r, _ := order.Do(c, l, o)
			first = append(first, answer{out, r})
		}
	}
	at := len(first)
	for _, l := range slices.Backward(all) {
		for _, o := range slices.Backward(ops) {
			at--
			if out, r, e := order.Do(c, l, o); e != api.OK || !sameRes(r, first[at].r) || !slices.Equal(out, first[at].out) {
				t.Fatalf("Do(%v, %v) = %v, %v, %d, and before %v", l, o, out, r, e, first[at])
			}
		}
	}
}

// P7.3: a code other than OK leaves the rows, and so does what only reads.
func TestWhatLeavesTheRows(t *testing.T) {
	c := sized(3)
	for _, l := range everyIndex(edges, 3) {
		for _, o := range append(fitting(asked, []uint32{8}), anyOps()...) {
			out, r, _ := order.Do(c, l, o)
			if (r.Code != api.OK || !op.Writes(o.Kind)) && !slices.Equal(out, l) {
				t.Errorf("Do(%v, %v) = %v, %v", l, o, out, r)
			}
		}
	}
}

// P7.3: what is put is got; what is taken out is got no more; no other key's row is turned by either.
func TestWhatIsPutIsGot(t *testing.T) {
	c := sized(len(edges) + 1)
	for _, l := range everyIndex(edges, len(edges)) {
		for _, key := range asked {
			others := func(l []api.Row) []api.Row {
				return slices.DeleteFunc(slices.Clone(l), func(r api.Row) bool { return r.K == uint64(key) })
			}
			in, r, _ := order.Do(c, l, put(key, 41))
			if _, got, _ := order.Do(c, in, get(key)); r.Code != api.OK || !sameRes(got, api.Res{V: 42}) || !slices.Equal(others(in), others(l)) {
				t.Errorf("41 put at %d of %v: %v, and got %v", key, l, in, got)
			}
			out, r, _ := order.Do(c, in, takeOut(key))
			if _, got, _ := order.Do(c, out, get(key)); !sameRes(r, api.Res{V: 42}) || got.Code != api.ErrNone || !slices.Equal(out, others(l)) {
				t.Errorf("%d taken out of %v: %v, %v, and got %v", key, in, out, r, got)
			}
		}
	}
}

// told is what an operation that fits tells; it leaves the rows.
func told(t *testing.T, l []api.Row, o api.Op) api.Res {
	t.Helper()
	_, r, e := order.Do(sized(32), l, o)
	if e != api.OK {
		t.Fatalf("Do(%v, %v): %d", l, o, e)
	}
	return r
}

// P7.3: a scan is those rows that it names, and no other: each row stands in it once, if its key is one of those.
func TestScanIsTheRowsItNames(t *testing.T) {
	for _, l := range everyIndex(edges, len(edges)) {
		for _, first := range asked {
			for _, last := range asked {
				rows := told(t, l, scan(first, last)).Rows
				for _, r := range rows {
					if !slices.Contains(l, r) || r.K < uint64(first) || r.K > uint64(last) {
						t.Errorf("the scan of %v from %d to %d tells %v", l, first, last, r)
					}
				}
				named := slices.DeleteFunc(slices.Clone(l), func(r api.Row) bool { return r.K < uint64(first) || r.K > uint64(last) })
				if !slices.Equal(rows, named) {
					t.Errorf("the scan of %v from %d to %d is %v", l, first, last, rows)
				}
			}
		}
	}
}

// P7.3: a scan that is cut in two is the same, wherever it is cut.
func TestScanCutInTwo(t *testing.T) {
	for _, l := range everyIndex(edges, len(edges)) {
		for i, first := range asked {
			for j := i; j < len(asked); j++ {
				whole := told(t, l, scan(first, asked[j])).Rows
				for _, cut := range asked[i:j] {
					ahead, behind := told(t, l, scan(first, cut)).Rows, told(t, l, scan(cut+1, asked[j])).Rows
					if !slices.Equal(whole, slices.Concat(ahead, behind)) {
						t.Errorf("the scan of %v from %d to %d is %v, and cut behind %d %v and %v", l, first, asked[j], whole, cut, ahead, behind)
					}
				}
			}
		}
	}
}

// P7.3: a floor is the last row of the scan from 0 on; where that has none, there is none.
func TestFloorIsTheLastOfTheScan(t *testing.T) {
	for _, l := range everyIndex(edges, len(edges)) {
		for _, key := range asked {
			want, below := api.Res{Code: api.ErrNone}, told(t, l, scan(0, key)).Rows
			if len(below) > 0 {
				want = api.Res{Rows: below[len(below)-1:]}
			}
			if r := told(t, l, floor(key)); !sameRes(r, want) {
				t.Errorf("the floor of %d in %v is %v, and the scan %v", key, l, r, below)
			}
		}
	}
}

// P7.1: of the longest index, with all keys side by side, every operation that only reads.
func TestReadsOfTheLongest(t *testing.T) {
	var l []api.Row
	var keys []uint32
	for i := range uint32(34) {
		keys = append(keys, i)
		if i > 0 && i < 33 {
			l = append(l, api.Row{K: uint64(i), V: uint64(maxValue - i)})
		}
	}
	for _, o := range reads(keys) {
		checkDo(t, sized(32), l, o)
	}
}
