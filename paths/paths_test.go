package paths_test

import (
	"cmp"
	"maps"
	"math"
	"slices"
	"testing"

	"bascule/api"
	"bascule/op"
	"bascule/paths"
)

const (
	maxName = 65535
	maxWord = 1 << 31
)

// example is the chapter's config.
var example = api.Config{Object: api.ObjConfig, Instances: 2, Threads: 1, Kind: api.KindSlots, Cap: 3, Batch: 1, Limit: 131072}

func sized(most int) api.Config {
	c := example
	c.Cap = most
	return c
}

// path has three names; 0: none there.
type path [3]uint32

func set(p path, value uint32) api.Op {
	return api.Op{Kind: api.OpSet, A: p[1]<<16 | p[0], B: p[2], C: value}
}

func unset(p path) api.Op { return api.Op{Kind: api.OpUnset, A: p[1]<<16 | p[0], B: p[2]} }

func read(p path) api.Op { return api.Op{Kind: api.OpRead, A: p[1]<<16 | p[0], B: p[2]} }

// node is a row, made by hand of its path and its word.
func node(p path, word uint64) api.Row {
	return api.Row{K: uint64(p[0])<<32 | uint64(p[1])<<16 | uint64(p[2]), V: word}
}

// parent is the path without its last name, if it has more than one.
func (p path) parent() (path, bool) {
	switch {
	case p[2] != 0:
		return path{p[0], p[1], 0}, true
	case p[1] != 0:
		return path{p[0], 0, 0}, true
	}
	return path{}, false
}

// above are the paths above one, the next one first.
func (p path) above() []path {
	var l []path
	for q, more := p.parent(); more; q, more = q.parent() {
		l = append(l, q)
	}
	return l
}

// tree is what rows mean, by the chapter's words: each node's word, in no order.
type tree map[path]uint32

func readTree(l []api.Row) tree {
	m := tree{}
	for _, r := range l {
		m[path{uint32(r.K >> 32), uint32(r.K >> 16 & maxName), uint32(r.K & maxName)}] = uint32(r.V)
	}
	return m
}

func (m tree) rows() []api.Row {
	var l []api.Row
	for p, word := range m {
		l = append(l, node(p, uint64(word)))
	}
	slices.SortFunc(l, func(a, b api.Row) int { return cmp.Compare(a.K, b.K) })
	return l
}

func (m tree) isParent(p path) bool {
	for q := range m {
		if above, more := q.parent(); more && above == p {
			return true
		}
	}
	return false
}

// set is what the chapter says of it: the tree behind it, unless that would be too great.
func (m tree) set(c api.Config, p path, value uint32) (tree, api.Res) {
	out := maps.Clone(m)
	for _, q := range p.above() {
		out[q] += 0
	}
	out[p] = value + 1
	if len(out) > c.Cap {
		return m, api.Res{Code: api.ErrFull}
	}
	return out, api.Res{V: m[p]}
}

func (m tree) unset(p path) (tree, api.Res) {
	word, there := m[p]
	switch {
	case !there:
		return m, api.Res{Code: api.ErrNone}
	case m.isParent(p):
		return m, api.Res{Code: api.ErrUsed}
	}
	out := maps.Clone(m)
	delete(out, p)
	return out, api.Res{V: word}
}

// do is what the chapter says of an operation that fits.
func (m tree) do(c api.Config, o api.Op) (tree, api.Res) {
	p := path{o.A & maxName, o.A >> 16, o.B}
	switch {
	case o.Kind == api.OpSet:
		return m.set(c, p, o.C)
	case o.Kind == api.OpUnset:
		return m.unset(p)
	case m[p] == 0:
		return m, api.Res{Code: api.ErrNone}
	}
	return m, api.Res{V: m[p]}
}

// isRes holds an answer of a tree against another one; none of them has rows.
func isRes(r, want api.Res) bool {
	return r.Code == want.Code && r.V == want.V && len(r.Rows) == 0
}

// checkDo asks Do of an operation that fits, and holds it against the chapter's words; it answers the rows behind it.
func checkDo(t *testing.T, c api.Config, l []api.Row, o api.Op) []api.Row {
	t.Helper()
	m, want := readTree(l).do(c, o)
	rows := m.rows()
	out, r, e := paths.Do(c, l, o)
	if e != api.OK || !isRes(r, want) || !slices.Equal(out, rows) {
		t.Fatalf("Cap %d: Do(%v, %v) = %v, %v, %d, not %v, %v", c.Cap, l, o, out, r, e, rows, want)
	}
	if !paths.Is(c, out) {
		t.Fatalf("Do(%v, %v) answers %v, which may not be a tree's", l, o, out)
	}
	return out
}

// told is what an operation answers, of the greatest Cap.
func told(t *testing.T, l []api.Row, o api.Op) api.Res {
	t.Helper()
	_, r, e := paths.Do(sized(32), l, o)
	if e != api.OK {
		t.Fatalf("Do(%v, %v): %d", l, o, e)
	}
	return r
}

// known are paths of the trees of the tests, each behind those above it: names that are others' too, in other places, and the greatest.
var known = []path{{1}, {1, 1}, {1, 1, 1}, {1, 2}, {1, 2, 1}, {2}, {2, maxName}, {2, maxName, maxName}, {maxName}}

// strange are paths that are in none of them.
var strange = []path{{3}, {3, 1}, {3, 1, 2}, {1, 3}, {1, 3, 1}, {1, 1, 2}, {1, 1, maxName}, {maxName, 1}, {maxName, maxName, maxName}, {256, 256, 256}}

// everyTree has all trees of some paths, their nodes with one value or with none.
func everyTree(of []path) [][]api.Row {
	all := []tree{{}}
	for i, p := range of {
		for _, m := range all[:len(all):len(all)] {
			above, more := p.parent()
			if _, there := m[above]; more && !there {
				continue
			}
			bare, valued := maps.Clone(m), maps.Clone(m)
			bare[p], valued[p] = 0, uint32(i+1)
			all = append(all, bare, valued)
		}
	}
	var rows [][]api.Row
	for _, m := range all {
		rows = append(rows, m.rows())
	}
	return rows
}

// fitting has operations that fit, of the paths that are known, and of strange ones.
func fitting() []api.Op {
	var l []api.Op
	for _, p := range slices.Concat(known, strange) {
		l = append(l, set(p, 0), set(p, 70), unset(p), read(p))
	}
	return l
}

// P9.1: the chapter's examples.
func TestExamples(t *testing.T) {
	one, low, high := path{1}, path{1, 2}, path{3, 4}
	two := []api.Row{node(one, 0), node(low, 8)}
	valued := []api.Row{node(one, 6), node(low, 8)}
	for _, x := range []struct {
		l    []api.Row
		o    api.Op
		out  []api.Row
		want api.Res
	}{
		{nil, set(low, 7), two, api.Res{}},
		{two, read(low), two, api.Res{V: 8}},
		{two, read(one), two, api.Res{Code: api.ErrNone}},
		{two, set(high, 0), two, api.Res{Code: api.ErrFull}},
		{two, set(one, 5), valued, api.Res{}},
		{valued, unset(one), valued, api.Res{Code: api.ErrUsed}},
		{valued, unset(low), valued[:1], api.Res{V: 8}},
		{valued[:1], unset(one), nil, api.Res{V: 6}},
	} {
		if out, r, e := paths.Do(example, x.l, x.o); e != api.OK || !isRes(r, x.want) || !slices.Equal(out, x.out) {
			t.Errorf("Do(%v, %v) = %v, %v, %d", x.l, x.o, out, r, e)
		}
	}
}

// P9.1: every operation of few paths, on all trees there are of them, of each Cap from how many nodes they have on.
func TestDoEverywhereOfFewPaths(t *testing.T) {
	ops := fitting()
	for _, l := range everyTree(known[:8]) {
		for _, most := range []int{max(len(l), 1), len(l) + 1, len(l) + 2, len(l) + 3} {
			for _, o := range ops {
				checkDo(t, sized(most), l, o)
			}
		}
	}
}

// next is a number behind another one, in an order that looks like none.
func next(n uint64) uint64 {
	return n*6364136223846793005 + 1442695040888963407
}

// someOp is one that fits, told by a number, of names up to a greatest one.
func someOp(most uint32, n uint64) api.Op {
	p := path{1 + uint32(n>>50)%most, 1 + uint32(n>>34)%most, 1 + uint32(n>>18)%most}
	for i := 1 + n>>60%3; i < 3; i++ {
		p[i] = 0
	}
	switch m := next(n); m >> 61 {
	case 0, 1, 2, 3:
		return set(p, uint32(m>>20)%4)
	case 4, 5:
		return unset(p)
	}
	return read(p)
}

// P9.1, P9.3: long rows of operations, of small and great Caps, of few names and of many; each goes on where the one ahead of it ended.
func TestDoLongRows(t *testing.T) {
	n := uint64(9)
	for _, c := range []int{1, 2, 3, 5, 16, 32} {
		for _, most := range []uint32{1, 2, 3, maxName} {
			var l []api.Row
			for range 2000 {
				n = next(n)
				l = checkDo(t, sized(c), l, someOp(most, n))
			}
		}
	}
}

// P9.1: only Cap counts of a config of ObjConfig that may be.
func TestDoOfOtherConfigs(t *testing.T) {
	striped := example
	striped.Kind, striped.Stripes, striped.Most, striped.Cap = api.KindStripes, 4, 1, 5
	great := example
	great.Instances, great.Threads, great.Batch, great.Limit, great.Cap = 4, 16, 16, 1<<62, 5
	for _, c := range []api.Config{striped, great} {
		for _, l := range everyTree(known[:5]) {
			for _, o := range fitting() {
				checkDo(t, c, l, o)
			}
		}
	}
}

// P9.1: what stands at the limits: the least and the greatest value, and the last path there may be.
func TestDoAtTheLimits(t *testing.T) {
	last := path{maxName, maxName, maxName}
	above := []api.Row{node(path{maxName}, 0), node(path{maxName, maxName}, maxWord)}
	all := append(slices.Clone(above), node(last, maxWord))
	none := append(slices.Clone(above), node(last, 1))
	for _, x := range []struct {
		l    []api.Row
		o    api.Op
		out  []api.Row
		want api.Res
	}{
		{above, set(last, math.MaxInt32), all, api.Res{}},
		{above, set(last, 0), none, api.Res{}},
		{none, read(last), none, api.Res{V: 1}},
		{none, set(last, math.MaxInt32), all, api.Res{V: 1}},
		{all, read(last), all, api.Res{V: maxWord}},
		{all, set(last, 0), none, api.Res{V: maxWord}},
		{all, unset(last), above, api.Res{V: maxWord}},
		{above, unset(path{maxName, maxName}), above[:1], api.Res{V: maxWord}},
		{above[:1], unset(path{maxName}), nil, api.Res{}},
	} {
		if out, r, e := paths.Do(example, x.l, x.o); e != api.OK || !isRes(r, x.want) || !slices.Equal(out, x.out) {
			t.Errorf("Do(%v, %v) = %v, %v, %d", x.l, x.o, out, r, e)
		}
	}
}

// P9.1: a node without a value is there: it is set at any Cap, taken out, and counted, but what is read of it is none.
func TestANodeWithoutAValueIsThere(t *testing.T) {
	p, below := path{7}, path{7, 7}
	l := []api.Row{node(p, 0)}
	for _, x := range []struct {
		o    api.Op
		out  []api.Row
		want api.Res
	}{
		{read(p), l, api.Res{Code: api.ErrNone}},
		{set(p, 4), []api.Row{node(p, 5)}, api.Res{}},
		{unset(p), nil, api.Res{}},
		{set(below, 4), l, api.Res{Code: api.ErrFull}},
		{unset(below), l, api.Res{Code: api.ErrNone}},
	} {
		if out, r, e := paths.Do(sized(1), l, x.o); e != api.OK || !isRes(r, x.want) || !slices.Equal(out, x.out) {
			t.Errorf("Do(%v) = %v, %v, %d", x.o, out, r, e)
		}
	}
}

// P9.1: a node is put in with those above it, or not at all: one, two or three rows, at and behind Cap.
func TestSetWhereThereIsRoomForSome(t *testing.T) {
	for room := range 4 {
		l := []api.Row{node(path{1}, 3)}
		for i, p := range []path{{2}, {2, 2}, {2, 2, 2}} {
			want := api.Res{}
			if i+1 > room {
				want.Code = api.ErrFull
			}
			out, r, _ := paths.Do(sized(1+room), l, set(p, 9))
			if !isRes(r, want) || want.Code == api.OK && len(out) != 2+i || want.Code != api.OK && !slices.Equal(out, l) {
				t.Errorf("%v set where there is room for %d: %v, %v", p, room, out, r)
			}
		}
	}
}

// P9.1: up to Cap nodes all are put in; behind that none is, but the word of one that is there still becomes another.
func TestSetWhereThereAreCapRows(t *testing.T) {
	for most := 1; most <= 32; most++ {
		var l []api.Row
		for i := range uint32(40) {
			l = checkDo(t, sized(most), l, set(path{i + 1}, i))
		}
		if len(l) != most {
			t.Fatalf("%d rows of Cap %d", len(l), most)
		}
		if _, r, _ := paths.Do(sized(most), l, set(path{1}, 90)); !isRes(r, api.Res{V: 1}) {
			t.Errorf("the first node of %d: %v", most, r)
		}
	}
}

// P9.1: a node is used by those right below it alone, whatever names others share with it.
func TestUsedByThoseBelowAlone(t *testing.T) {
	m := tree{{1}: 1, {1, 2}: 2, {2}: 3, {2, 1}: 4, {2, 1, 1}: 5, {3}: 6}
	l := m.rows()
	for p, want := range map[path]api.Res{
		{1}: {Code: api.ErrUsed}, {1, 2}: {V: 2}, {2}: {Code: api.ErrUsed}, {2, 1}: {Code: api.ErrUsed}, {2, 1, 1}: {V: 5}, {3}: {V: 6},
		{1, 1}: {Code: api.ErrNone}, {2, 2}: {Code: api.ErrNone}, {1, 2, 1}: {Code: api.ErrNone}, {4}: {Code: api.ErrNone},
	} {
		if r := told(t, l, unset(p)); !isRes(r, want) {
			t.Errorf("%v is unset: %v, not %v", p, r, want)
		}
	}
}

func checkRefused(t *testing.T, c api.Config, l []api.Row, want api.Errno) {
	t.Helper()
	if paths.Is(c, l) {
		t.Errorf("Is(%v, %v)", c, l)
	}
	for _, o := range anyOps() {
		out, r, e := paths.Do(c, l, o)
		if e != want || len(out) != 0 || !isRes(r, api.Res{}) {
			t.Errorf("Do(%v, %v, %v) = %v, %v, %d, not %d alone", c, l, o, out, r, e, want)
		}
	}
}

// anyOps are some that fit, and some that do not.
func anyOps() []api.Op {
	l := []api.Op{set(path{1}, 1), unset(path{1}), read(path{1}), set(path{1}, maxWord), {Kind: api.OpSet}, {Kind: api.OpRead, A: 1, B: 1}}
	for kind := range 256 {
		l = append(l, api.Op{Kind: uint8(kind)}, api.Op{Kind: uint8(kind), A: math.MaxUint32, B: math.MaxUint32, C: math.MaxUint32})
	}
	return l
}

// badConfigs are no tree's: of other objects, or such as may not be.
func badConfigs() []api.Config {
	routes, index, access := example, example, example
	routes.Object, routes.Bits = api.ObjRoute, 3
	index.Object, index.Node, index.Chunk = api.ObjIndex, 2, 1
	access.Object = api.ObjAccess
	l := []api.Config{{}, {Object: api.ObjConfig}, routes, index, access}
	for _, object := range []uint8{0, 1, 2, 5, 255} {
		l = append(l, api.Config{Object: object, Instances: 2, Threads: 1, Kind: api.KindSlots, Cap: 3, Batch: 1, Limit: 131072})
	}
	for _, most := range []int{math.MinInt, -1, 0, 33, math.MaxInt} {
		l = append(l, sized(most))
	}
	bits, stripes, limit := example, example, example
	bits.Bits, stripes.Stripes, limit.Limit = 1, 1, 131071
	return append(l, bits, stripes, limit)
}

// P9.1, P1: a config that may not be, or is another object's, is told ahead of bad rows and of bad operations.
func TestBadConfigs(t *testing.T) {
	for _, c := range badConfigs() {
		for _, l := range [][]api.Row{nil, {node(path{1}, 3)}, {{K: 3}}, {node(path{1}, 1), node(path{1}, 1)}} {
			checkRefused(t, c, l, api.ErrConf)
		}
	}
}

// badRows are no tree's, of Cap 3: too many, such as do not rise, whose parent is none of them, of keys that are no path's, or of words too great.
func badRows() [][]api.Row {
	one, low, deep := node(path{1}, 1), node(path{1, 1}, 2), node(path{1, 1, 1}, 3)
	return [][]api.Row{
		{one, low, deep, node(path{2}, 0)},
		{one, one},
		{one, node(path{1}, 2)},
		{low, one},
		{one, deep, low},
		{node(path{2}, 1), one},
		{node(path{1}, 0), node(path{3}, 0), node(path{2}, 0)},
		{low},
		{deep},
		{one, deep},
		{low, deep},
		{one, node(path{2, 1}, 0)},
		{one, low, node(path{1, 2, 1}, 0)},
		{one, low, node(path{2, 1, 1}, 0)},
		{node(path{2}, 0), node(path{3, 2}, 0)},
		{node(path{1}, 0), node(path{maxName, maxName, maxName}, 0)},
		{{K: 0}},
		{{K: 0}, one},
		{{K: 1}},
		{{K: 1 << 16}},
		{{K: 1<<16 | 1}},
		{one, {K: 1<<32 | 1}},
		{one, {K: 1<<32 | maxName}},
		{{K: 1 << 48}},
		{{K: 1<<48 | 1<<32}},
		{{K: 1 << 32}, {K: 1<<48 | 1<<32 | 1<<16}},
		{one, {K: 1 << 63}},
		{{K: math.MaxUint64}},
		{{K: math.MaxUint64}, one},
		{node(path{1}, maxWord+1)},
		{node(path{1}, 1<<32)},
		{node(path{1}, math.MaxUint64)},
		{one, node(path{1, 1}, maxWord+1)},
		{one, low, node(path{1, 1, 1}, 1<<63)},
	}
}

// P9.1, P1: rows that may not be a tree's.
func TestBadRows(t *testing.T) {
	for _, l := range badRows() {
		checkRefused(t, example, l, api.ErrArg)
	}
}

// P9.1: rows that may be a tree's, of Cap 3: up to that many, whatever their names are, with words or without.
func TestGoodRows(t *testing.T) {
	for _, l := range [][]api.Row{
		nil,
		{},
		{node(path{1}, 0)},
		{node(path{maxName}, maxWord)},
		{node(path{1}, 0), node(path{1, 1}, 0), node(path{1, 1, 1}, 0)},
		{node(path{1}, 1), node(path{1, maxName}, 2), node(path{2}, 3)},
		{node(path{1}, maxWord), node(path{1, 1}, maxWord), node(path{1, 2}, maxWord)},
		{node(path{1}, 9), node(path{2}, 0), node(path{2, 1}, 9)},
		{node(path{maxName}, 0), node(path{maxName, maxName}, 0), node(path{maxName, maxName, maxName}, maxWord)},
	} {
		if !paths.Is(example, l) {
			t.Errorf("Is not %v", l)
		}
		for _, o := range anyOps() {
			if _, _, e := paths.Do(example, l, o); e != api.OK {
				t.Errorf("Do(%v, %v) = %d", l, o, e)
			}
		}
	}
}

// P9.1: all rows there are of some keys, with every parent or not, hold against the chapter's words.
func TestIsOfEveryRow(t *testing.T) {
	for chosen := range 1 << len(known) {
		m := tree{}
		for i, p := range known {
			if chosen>>i&1 == 1 {
				m[p] = uint32(i)
			}
		}
		want := true
		for p := range m {
			above, more := p.parent()
			_, there := m[above]
			want = want && (!more || there)
		}
		if l := m.rows(); paths.Is(sized(9), l) != want {
			t.Errorf("Is(%v) is not %v", l, want)
		}
	}
}

// P9.1: of each Cap how many rows there may be.
func TestIsOfEveryCap(t *testing.T) {
	for most := 1; most <= 32; most++ {
		var l []api.Row
		for many := range uint32(40) {
			if got := paths.Is(sized(most), l); got != (int(many) <= most) {
				t.Errorf("Is of Cap %d and %d rows: %v", most, many, got)
			}
			l = append(l, node(path{1 + many*many}, 5))
		}
	}
}

// P9.1: where op.Check has an error, that is the Code, V is 0, and the rows are as they were.
func TestDoWhatDoesNotFit(t *testing.T) {
	l := []api.Row{node(path{1}, 0), node(path{1, 7}, 5)}
	numbers := []uint32{0, 1, 7, maxName, maxName + 1, 7<<16 | 1, math.MaxUint32}
	for kind := range 256 {
		for _, a := range numbers {
			for _, b := range numbers {
				for _, third := range []uint32{0, 1, math.MaxInt32, maxWord, math.MaxUint32} {
					checkCode(t, l, api.Op{Kind: uint8(kind), A: a, B: b, C: third})
				}
			}
		}
	}
}

func checkCode(t *testing.T, l []api.Row, o api.Op) {
	t.Helper()
	code := op.Check(example, o)
	if code == api.OK {
		checkDo(t, example, l, o)
		return
	}
	if out, r, e := paths.Do(example, l, o); e != api.OK || !isRes(r, api.Res{Code: code}) || !slices.Equal(out, l) {
		t.Errorf("Do(%v, %v) = %v, %v, %d, not the code %d", l, o, out, r, e, code)
	}
}

// P9.1: the codes of what does not fit, by hand.
func TestDoTellsTheCodes(t *testing.T) {
	l := []api.Row{node(path{1}, 0), node(path{1, 7}, 5)}
	for _, x := range []struct {
		o    api.Op
		want api.Errno
	}{
		{api.Op{}, api.ErrOp},
		{api.Op{Kind: api.OpPut, A: 1, B: 7}, api.ErrOp},
		{api.Op{Kind: api.OpCheck, A: 1, B: 7}, api.ErrOp},
		{api.Op{Kind: 15}, api.ErrOp},
		{set(path{}, 1), api.ErrOver},
		{set(path{0, 7}, 1), api.ErrOver},
		{set(path{1, 0, 7}, 1), api.ErrOver},
		{set(path{1, 7, maxName + 1}, 1), api.ErrOver},
		{set(path{1, 7}, maxWord), api.ErrOver},
		{unset(path{}), api.ErrOver},
		{unset(path{1, 0, 1}), api.ErrOver},
		{api.Op{Kind: api.OpUnset, A: 1, C: 1}, api.ErrOver},
		{read(path{}), api.ErrOver},
		{read(path{0, 7}), api.ErrOver},
		{api.Op{Kind: api.OpRead, A: 1, C: 1}, api.ErrOver},
	} {
		if out, r, e := paths.Do(example, l, x.o); e != api.OK || !isRes(r, api.Res{Code: x.want}) || !slices.Equal(out, l) {
			t.Errorf("Do(%v) = %v, %v, %d, not the code %d", x.o, out, r, e, x.want)
		}
	}
}

// P9.2: what is handed in is only read, also what lies behind the rows in their memory; what is answered shares none with it.
func TestDoAnswersNewMemory(t *testing.T) {
	behind := api.Row{K: 99, V: 99}
	for _, o := range slices.Concat(fitting(), anyOps()) {
		all := []api.Row{node(path{1}, 0), node(path{1, 1}, 5), node(path{2}, 6), behind, behind, behind}
		l, kept := all[:3], slices.Clone(all)
		out, _, _ := paths.Do(sized(6), l, o)
		again, _, _ := paths.Do(sized(6), l, o)
		rows := slices.Clone(again)
		out = out[:cap(out)]
		for i := range out {
			out[i] = api.Row{K: 77, V: 77}
		}
		if !slices.Equal(all, kept) || !slices.Equal(again, rows) {
			t.Fatalf("what %v answers is other rows' memory, or it turned %v to %v", o, kept, all)
		}
	}
}

// P9.2: Is only reads, too.
func TestIsOnlyReads(t *testing.T) {
	for _, l := range slices.Concat(badRows(), everyTree(known)) {
		kept := slices.Clone(l)
		if paths.Is(sized(9), l) != paths.Is(sized(9), l) || !slices.Equal(l, kept) {
			t.Errorf("Is turned %v to %v, or answers otherwise when it is asked again", kept, l)
		}
	}
}

// Rules of DOC.md: nothing is kept from call to call; asked backwards, all calls answer what they did.
func TestNothingIsKept(t *testing.T) {
	type answer struct {
		out []api.Row
		r   api.Res
	}
	var first []answer
	all, ops := everyTree(known[:5]), fitting()
	for _, l := range all {
		for _, o := range ops {
			out, r, _ := paths.Do(sized(6), l, o)
			first = append(first, answer{out, r})
		}
	}
	slices.Reverse(first)
	for _, l := range slices.Backward(all) {
		for _, o := range slices.Backward(ops) {
			was := first[0]
			first = first[1:]
			if out, r, e := paths.Do(sized(6), l, o); e != api.OK || !isRes(r, was.r) || !slices.Equal(out, was.out) {
				t.Fatalf("Do(%v, %v) = %v, %v, %d, and before %v", l, o, out, r, e, was)
			}
		}
	}
}

// P9.3: a code other than OK leaves the rows; so does OpRead.
func TestWhatLeavesTheRows(t *testing.T) {
	for _, l := range everyTree(known[:6]) {
		for _, o := range slices.Concat(fitting(), anyOps()) {
			out, r, _ := paths.Do(sized(6), l, o)
			if (r.Code != api.OK || o.Kind == api.OpRead) && !slices.Equal(out, l) {
				t.Errorf("Do(%v, %v) = %v, %v", l, o, out, r)
			}
		}
	}
}

// P9.3: what is set is read, behind whatever is set at other paths, too.
func TestWhatIsSetIsRead(t *testing.T) {
	every := slices.Concat(known, strange)
	for _, p := range every {
		l := checkDo(t, sized(32), nil, set(p, 41))
		for _, q := range every {
			if q != p {
				l = checkDo(t, sized(32), l, set(q, 7))
			}
			if r := told(t, l, read(p)); !isRes(r, api.Res{V: 42}) {
				t.Errorf("%v is read behind %v is set: %v", p, q, r)
			}
		}
	}
}

// P9.3: setting makes nodes for a path, and those above it, alone, and leaves all others' words.
func TestSetMakesNodesOnItsPathAlone(t *testing.T) {
	for _, l := range everyTree(known) {
		for _, p := range slices.Concat(known, strange) {
			out, r, _ := paths.Do(sized(32), l, set(p, 70))
			if r.Code != api.OK {
				t.Fatalf("%v set in %v: %v", p, l, r)
			}
			was := readTree(l)
			for q, word := range readTree(out) {
				if old, there := was[q]; q != p && (there && word != old || !there && (word != 0 || !slices.Contains(p.above(), q))) {
					t.Errorf("%v set in %v: %v", p, l, out)
				}
				delete(was, q)
			}
			if len(was) != 0 {
				t.Errorf("%v set in %v takes %v out", p, l, was)
			}
		}
	}
}

// P9.3: taking out takes one node, which has none below it, and tells its word.
func TestUnsetTakesOneNode(t *testing.T) {
	for _, l := range everyTree(known) {
		for _, p := range known {
			out, r, _ := paths.Do(sized(32), l, unset(p))
			if r.Code != api.OK {
				continue
			}
			gone := node(p, uint64(r.V))
			at := slices.Index(l, gone)
			if at < 0 || !slices.Equal(out, slices.Delete(slices.Clone(l), at, at+1)) || readTree(l).isParent(p) {
				t.Errorf("%v taken out of %v: %v, %v", p, l, out, r)
			}
		}
	}
}
