package model_test

import (
	"math"
	"slices"
	"testing"

	"bascule/api"
	"bascule/model"
	"bascule/op"
	"bascule/order"
	"bascule/paths"
	"bascule/rules"
	"bascule/table"
)

// example is the chapter's config; the others are of the other objects, as great.
var (
	example  = api.Config{Object: api.ObjAccess, Instances: 2, Threads: 1, Kind: api.KindSlots, Cap: 2, Batch: 1, Limit: 131072}
	routes   = api.Config{Object: api.ObjRoute, Instances: 2, Threads: 1, Kind: api.KindSlots, Bits: 3, Cap: 2, Batch: 1, Limit: 131072}
	index    = api.Config{Object: api.ObjIndex, Instances: 2, Threads: 1, Kind: api.KindSlots, Cap: 2, Node: 2, Batch: 1, Chunk: 1, Limit: 131072}
	settings = api.Config{Object: api.ObjConfig, Instances: 2, Threads: 1, Kind: api.KindSlots, Cap: 2, Batch: 1, Limit: 131072}
)

func sized(c api.Config, most int) api.Config {
	c.Cap = most
	return c
}

// four are configs of all objects, of a Cap.
func four(most int) []api.Config {
	return []api.Config{sized(routes, most), sized(index, most), sized(example, most), sized(settings, most)}
}

// layer is what a layer answers of its object.
type layer struct {
	is func(c api.Config, l []api.Row) bool
	do func(c api.Config, l []api.Row, o api.Op) ([]api.Row, api.Res, api.Errno)
}

func layerOf(c api.Config) layer {
	return map[uint8]layer{
		1: {table.Is, table.Do},
		2: {order.Is, order.Do},
		3: {rules.Is, rules.Do},
		4: {paths.Is, paths.Do},
	}[c.Object]
}

func isRes(r, want api.Res) bool {
	return r.Code == want.Code && r.V == want.V && slices.Equal(r.Rows, want.Rows)
}

func next(n uint64) uint64 {
	return n*6364136223846793005 + 1442695040888963407
}

// fitting are a config's operations of few numbers, all that fit.
func fitting(c api.Config) []api.Op {
	var l []api.Op
	for _, o := range anyOps() {
		if op.Check(c, o) == api.OK {
			l = append(l, o)
		}
	}
	return l
}

// anyOps are operations of all kinds and few numbers, of which each config has some that fit, and some that do not.
func anyOps() []api.Op {
	var l []api.Op
	for kind := range uint8(16) {
		for _, a := range []uint32{0, 1, 2, 3, 1<<16 | 1, 2<<16 | 1, math.MaxUint32} {
			for b := range uint32(3) {
				for third := range uint32(3) {
					l = append(l, api.Op{Kind: kind, A: a, B: b, C: third})
				}
			}
		}
	}
	return append(l, api.Op{Kind: 255})
}

// someOps are many operations, one by one out of a list.
func someOps(from []api.Op, seed uint64, many int) []api.Op {
	l := make([]api.Op, many)
	for i := range l {
		seed = next(seed)
		l[i] = from[seed>>33%uint64(len(from))]
	}
	return l
}

// states are those that operations leave, one behind the other, from no rows on: many of a config, of few keys.
func states(t *testing.T, c api.Config) [][]api.Row {
	t.Helper()
	l := [][]api.Row{nil}
	for _, o := range someOps(fitting(c), 7, 60) {
		out, _, e := layerOf(c).do(c, l[len(l)-1], o)
		if e != api.OK {
			t.Fatalf("%v does not do %v: %d", c, o, e)
		}
		l = append(l, out)
	}
	return l
}

// fold is the chapter's words, by the layers' Do.
func fold(c api.Config, all []api.Op) (l []api.Row, told []api.Res) {
	for _, o := range all {
		var r api.Res
		l, r, _ = layerOf(c).do(c, l, o)
		told = append(told, r)
	}
	return l, told
}

// checkFold holds a fold against rows and answers.
func checkFold(t *testing.T, c api.Config, all []api.Op, l []api.Row, told []api.Res) {
	t.Helper()
	gotRows, got, e := model.Fold(c, all)
	if e != api.OK || !slices.Equal(gotRows, l) || !slices.EqualFunc(got, told, isRes) {
		t.Fatalf("of the object %d the fold of %v is %v, %v, %d, not %v, %v", c.Object, all, gotRows, got, e, l, told)
	}
}

// P10.2: the chapter's example.
func TestFoldOfTheExample(t *testing.T) {
	checkFold(t, example, []api.Op{
		{Kind: api.OpAdd, A: 1, B: 1, C: api.Deny},
		{Kind: api.OpCheck, A: 1, B: 1},
		{Kind: api.OpCheck, A: 2, B: 1},
		{Kind: api.OpDrop, A: 5, B: 5},
	}, []api.Row{{K: 65537, V: 2}}, []api.Res{{}, {V: 2}, {}, {Code: api.ErrNone}})
}

// P10.2: folds of the other objects, by hand.
func TestFoldOfEachObject(t *testing.T) {
	for _, x := range []struct {
		c    api.Config
		all  []api.Op
		rows []api.Row
		told []api.Res
	}{
		{routes, []api.Op{
			{Kind: api.OpInsert, A: 5, B: 3, C: 7}, {Kind: api.OpInsert, C: 4}, {Kind: api.OpLookup, A: 5}, {Kind: api.OpLookup, A: 4},
			{Kind: api.OpInsert, A: 2, B: 2}, {Kind: api.OpRemove}, {Kind: api.OpLookup, A: 4}, {Kind: api.OpGet, A: 4},
		}, []api.Row{{K: 13, V: 7}}, []api.Res{{}, {}, {V: 8}, {V: 5}, {Code: api.ErrFull}, {V: 5}, {Code: api.ErrNone}, {Code: api.ErrOp}}},
		{index, []api.Op{
			{Kind: api.OpPut, A: 5, B: 50}, {Kind: api.OpPut, A: 2, B: 20}, {Kind: api.OpGet, A: 5}, {Kind: api.OpFloor, A: 4},
			{Kind: api.OpScan, A: 0, B: 9}, {Kind: api.OpPut, A: 6}, {Kind: api.OpDelete, A: 5}, {Kind: api.OpScan, B: 9}, {Kind: api.OpGet, A: 1 << 31},
		}, []api.Row{{K: 2, V: 20}}, []api.Res{
			{}, {}, {V: 51}, {Rows: []api.Row{{K: 2, V: 20}}}, {Rows: []api.Row{{K: 2, V: 20}, {K: 5, V: 50}}},
			{Code: api.ErrFull}, {V: 51}, {Rows: []api.Row{{K: 2, V: 20}}}, {Code: api.ErrOver},
		}},
		{settings, []api.Op{
			{Kind: api.OpSet, A: 2<<16 | 1, C: 7}, {Kind: api.OpRead, A: 2<<16 | 1}, {Kind: api.OpRead, A: 1}, {Kind: api.OpSet, A: 3},
			{Kind: api.OpUnset, A: 1}, {Kind: api.OpUnset, A: 2<<16 | 1}, {Kind: api.OpSet, A: 1, C: 4}, {},
		}, []api.Row{{K: 1 << 32, V: 5}}, []api.Res{
			{}, {V: 8}, {Code: api.ErrNone}, {Code: api.ErrFull}, {Code: api.ErrUsed}, {V: 8}, {}, {Code: api.ErrOp},
		}},
	} {
		checkFold(t, x.c, x.all, x.rows, x.told)
	}
}

// P10.1: Is and Do are what the object's layer says, of states and of what is none, of all operations.
func TestIsAndDoAreTheLayers(t *testing.T) {
	for _, c := range four(3) {
		for _, l := range slices.Concat(states(t, c), badRows()) {
			if got := model.Is(c, l); got != layerOf(c).is(c, l) {
				t.Errorf("of the object %d Is(%v) is %v", c.Object, l, got)
			}
			for _, o := range anyOps() {
				out, r, e := model.Do(c, l, o)
				wantRows, want, wantE := layerOf(c).do(c, l, o)
				if e != wantE || !isRes(r, want) || !slices.Equal(out, wantRows) {
					t.Fatalf("of the object %d Do(%v, %v) = %v, %v, %d, not %v, %v, %d", c.Object, l, o, out, r, e, wantRows, want, wantE)
				}
			}
		}
	}
}

// P10.1: rows that are one object's state are told from those that are not, by hand.
func TestIsOfEachObject(t *testing.T) {
	for _, x := range []struct {
		l    []api.Row
		want [4]bool
	}{
		{nil, [4]bool{true, true, true, true}},
		{[]api.Row{}, [4]bool{true, true, true, true}},
		{[]api.Row{{K: 0, V: 1}}, [4]bool{false, true, true, false}},
		{[]api.Row{{K: 15, V: 3}}, [4]bool{true, true, false, false}},
		{[]api.Row{{K: 16, V: 2}}, [4]bool{false, true, true, false}},
		{[]api.Row{{K: math.MaxUint32, V: 2}}, [4]bool{false, false, true, false}},
		{[]api.Row{{K: 1 << 32, V: 1 << 31}}, [4]bool{false, false, false, true}},
		{[]api.Row{{K: 2, V: 1}, {K: 1, V: 1}}, [4]bool{}},
		{[]api.Row{{K: 1, V: 1}, {K: 2, V: 1}, {K: 3, V: 1}}, [4]bool{}},
	} {
		for i, c := range four(2) {
			if got := model.Is(c, x.l); got != x.want[i] {
				t.Errorf("of the object %d Is(%v) is %v", c.Object, x.l, got)
			}
		}
	}
}

// badRows are no object's state.
func badRows() [][]api.Row {
	return [][]api.Row{
		{{K: 1, V: 1}, {K: 1, V: 1}},
		{{K: 2, V: 1}, {K: 1, V: 1}},
		{{K: math.MaxUint64, V: 1}},
		{{K: 1, V: math.MaxUint64}},
		{{K: 1, V: 1<<31 + 1}},
		make([]api.Row, 33),
	}
}

// P10.1, P1: what is no state answers ErrArg alone, also where the operation does not fit.
func TestBadRows(t *testing.T) {
	for _, c := range four(2) {
		for _, l := range badRows() {
			if model.Is(c, l) {
				t.Errorf("of the object %d Is(%v)", c.Object, l)
			}
			for _, o := range anyOps() {
				if out, r, e := model.Do(c, l, o); e != api.ErrArg || len(out) != 0 || !isRes(r, api.Res{}) {
					t.Errorf("of the object %d Do(%v, %v) = %v, %v, %d", c.Object, l, o, out, r, e)
				}
			}
		}
	}
}

// badConfigs may not be: of no object, or of one with another one's numbers.
func badConfigs() []api.Config {
	l := []api.Config{{}, {Object: api.ObjAccess}}
	for _, c := range four(2) {
		for _, most := range []int{math.MinInt, -1, 0, 33, math.MaxInt} {
			l = append(l, sized(c, most))
		}
		for _, object := range []uint8{0, 5, 255} {
			other := c
			other.Object = object
			l = append(l, other)
		}
		other := c
		other.Object = c.Object%2 + 1
		limit, instances := c, c
		limit.Limit, instances.Instances = 131071, 5
		if other.Object != c.Object {
			l = append(l, other)
		}
		l = append(l, limit, instances)
	}
	return l
}

// P10.1, P10.2, P1: a config that may not be is told ahead of what is no state, of too many operations, and of bad ones.
func TestBadConfigs(t *testing.T) {
	for _, c := range badConfigs() {
		for _, l := range append(badRows(), nil, []api.Row{{K: 1, V: 1}}) {
			if model.Is(c, l) {
				t.Errorf("Is(%v, %v)", c, l)
			}
			for _, o := range []api.Op{{}, {Kind: api.OpCheck, A: 1, B: 1}, {Kind: api.OpGet}, {Kind: 255}} {
				if out, r, e := model.Do(c, l, o); e != api.ErrConf || len(out) != 0 || !isRes(r, api.Res{}) {
					t.Errorf("Do(%v, %v, %v) = %v, %v, %d", c, l, o, out, r, e)
				}
			}
		}
		for _, many := range []int{0, 1, 1024, 1025} {
			if out, told, e := model.Fold(c, make([]api.Op, many)); e != api.ErrConf || len(out) != 0 || len(told) != 0 {
				t.Errorf("Fold(%v, %d) = %v, %v, %d", c, many, out, told, e)
			}
		}
	}
}

// P10.2: up to 1,024 operations are folded, each of which has its answer; behind that ErrMany alone.
func TestFoldOfHowMany(t *testing.T) {
	for _, c := range four(32) {
		for _, many := range []int{0, 1, 2, 1023, 1024, 1025, 1026, 4096} {
			all := someOps(fitting(c), 5, many)
			if many <= 1024 {
				l, told := fold(c, all)
				checkFold(t, c, all, l, told)
				continue
			}
			if l, told, e := model.Fold(c, all); e != api.ErrMany || len(l) != 0 || len(told) != 0 {
				t.Errorf("the fold of %d: %v, %v, %d", many, l, told, e)
			}
		}
	}
}

// P10.2: an operation that does not fit stands in the fold of many as a code, and is counted.
func TestFoldOfWhatDoesNotFit(t *testing.T) {
	all := make([]api.Op, 1024)
	for _, c := range four(2) {
		l, told, e := model.Fold(c, all)
		if e != api.OK || len(l) != 0 || len(told) != 1024 {
			t.Fatalf("%v, %d answers, %d", l, len(told), e)
		}
		for _, r := range told {
			if !isRes(r, api.Res{Code: api.ErrOp}) {
				t.Errorf("%v", r)
			}
		}
		if _, told, e := model.Fold(c, append(all, api.Op{})); e != api.ErrMany || len(told) != 0 {
			t.Errorf("%d answers, %d", len(told), e)
		}
	}
}

// P10.2: folds of every three operations of few, hold against the layers.
func TestFoldOfEveryThree(t *testing.T) {
	for _, c := range four(2) {
		ops := someOps(fitting(c), 3, 14)
		for _, first := range ops {
			for _, second := range ops {
				for _, third := range ops {
					all := []api.Op{first, second, third}
					l, told := fold(c, all)
					checkFold(t, c, all, l, told)
				}
			}
		}
	}
}

// P10.4: a fold goes on where that of its first operations ended.
func TestFoldGoesOn(t *testing.T) {
	for _, c := range four(4) {
		all := someOps(anyOps(), 11, 100)
		all = append(all, someOps(fitting(c), 12, 100)...)
		l, told, _ := model.Fold(c, nil)
		for i, o := range all {
			var r api.Res
			l, r, _ = model.Do(c, l, o)
			told = append(told, r)
			if !model.Is(c, l) {
				t.Fatalf("%v is no state", l)
			}
			checkFold(t, c, all[:i+1], l, told)
		}
	}
}

// P10.4: one that only reads, or has a code other than OK, may be left out, and so may all of them.
func TestFoldWithoutWhatLeavesTheState(t *testing.T) {
	for _, c := range four(3) {
		all := slices.Concat(someOps(fitting(c), 21, 60), someOps(anyOps(), 22, 20), someOps(fitting(c), 23, 20))
		l, told, _ := model.Fold(c, all)
		var rest []api.Op
		var restTold []api.Res
		for i, o := range all {
			if op.Writes(o.Kind) && told[i].Code == api.OK {
				rest, restTold = append(rest, o), append(restTold, told[i])
				continue
			}
			checkFold(t, c, slices.Delete(slices.Clone(all), i, i+1), l, slices.Delete(slices.Clone(told), i, i+1))
		}
		if len(rest) < 20 || len(rest) > 80 {
			t.Errorf("of the object %d %d of %d operations turn the state", c.Object, len(rest), len(all))
		}
		checkFold(t, c, rest, l, restTold)
	}
}

// P10.4: what op.Check refuses answers that, in every state.
func TestWhatIsRefused(t *testing.T) {
	for _, c := range four(3) {
		for _, l := range states(t, c) {
			for _, o := range anyOps() {
				code := op.Check(c, o)
				if code == api.OK {
					continue
				}
				if out, r, e := model.Do(c, l, o); e != api.OK || !isRes(r, api.Res{Code: code}) || !slices.Equal(out, l) {
					t.Errorf("of the object %d Do(%v, %v) = %v, %v, %d, not the code %d", c.Object, l, o, out, r, e, code)
				}
			}
		}
	}
}

// P10.3: what is handed to Is and Do is only read, also what lies behind the rows; what Do answers shares none with it.
func TestDoAnswersNewMemory(t *testing.T) {
	behind := api.Row{K: 99, V: 99}
	for _, c := range four(4) {
		for _, rows := range states(t, c) {
			all := slices.Concat(rows, []api.Row{behind, behind, behind})
			l, kept := all[:len(rows)], slices.Clone(all)
			model.Is(c, l)
			for _, o := range fitting(c) {
				out, r, _ := model.Do(c, l, o)
				spoil(out)
				want := slices.Clone(r.Rows)
				out, r, _ = model.Do(c, l, o)
				outKept := slices.Clone(out)
				spoil(r.Rows)
				if _, r, _ = model.Do(c, l, o); !slices.Equal(r.Rows, want) || !slices.Equal(out, outKept) || !slices.Equal(all, kept) {
					t.Fatalf("of the object %d what %v answers is other rows' memory, or it turned %v to %v", c.Object, o, kept, all)
				}
			}
		}
	}
}

// spoil writes into all the memory that a list has.
func spoil(l []api.Row) {
	l = l[:cap(l)]
	for i := range l {
		l[i] = api.Row{K: 77, V: 77}
	}
}

// P10.3: what is handed to Fold is only read; no two lists of what it answers share memory.
func TestFoldAnswersNewMemory(t *testing.T) {
	for _, c := range four(4) {
		all := append(someOps(fitting(c), 31, 40), api.Op{Kind: 200})
		kept := slices.Clone(all)
		l, told := fold(c, all[:40])
		for i := range len(told) + 1 {
			out, got, _ := model.Fold(c, all[:40])
			if i == len(told) {
				spoil(out)
				out = l
			} else {
				spoil(got[i].Rows)
				got[i] = told[i]
			}
			if !slices.Equal(out, l) || !slices.EqualFunc(got, told, isRes) || !slices.Equal(all, kept) {
				t.Fatalf("of the object %d the list %d of a fold is another one's memory", c.Object, i)
			}
		}
		checkFold(t, c, all[:40], l, told)
	}
}

// Rules of DOC.md: nothing is kept from call to call; asked backwards, and of other configs in between, all folds are what they were.
func TestNothingIsKept(t *testing.T) {
	type asked struct {
		c    api.Config
		all  []api.Op
		l    []api.Row
		told []api.Res
	}
	var first []asked
	for seed := range uint64(20) {
		for _, c := range four(3) {
			x := asked{c: c, all: someOps(fitting(c), seed, 30)}
			x.l, x.told, _ = model.Fold(c, x.all)
			first = append(first, x)
		}
	}
	for _, x := range slices.Backward(first) {
		checkFold(t, x.c, x.all, x.l, x.told)
	}
}
