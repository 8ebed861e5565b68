package rules_test

import (
	"maps"
	"math"
	"slices"
	"testing"

	"bascule/api"
	"bascule/op"
	"bascule/rules"
)

const (
	maxWho = 65535
	allow  = 1
	deny   = 2
)

// example is the chapter's config.
var example = api.Config{Object: api.ObjAccess, Instances: 2, Threads: 1, Kind: api.KindSlots, Cap: 3, Batch: 1, Limit: 131072}

func sized(most int) api.Config {
	c := example
	c.Cap = most
	return c
}

func add(who, what, says uint32) api.Op {
	return api.Op{Kind: api.OpAdd, A: who, B: what, C: says}
}

func drop(who, what uint32) api.Op { return api.Op{Kind: api.OpDrop, A: who, B: what} }

func check(who, what uint32) api.Op { return api.Op{Kind: api.OpCheck, A: who, B: what} }

// rule is a row, made by hand of whom it speaks of and what it says.
func rule(who, what uint32, says uint64) api.Row {
	return api.Row{K: uint64(who)<<16 | uint64(what), V: says}
}

// deed is whom and what a rule speaks of, or who would do what.
type deed struct {
	who, what uint32
}

// set is what rules mean, by the chapter's words: what each one says, in no order.
type set map[deed]uint32

func readSet(l []api.Row) set {
	m := set{}
	for _, r := range l {
		m[deed{uint32(r.K / 65536), uint32(r.K % 65536)}] = uint32(r.V)
	}
	return m
}

func (m set) rows() []api.Row {
	var l []api.Row
	for d, says := range m {
		l = append(l, rule(d.who, d.what, uint64(says)))
	}
	slices.SortFunc(l, func(a, b api.Row) int { return int(a.K) - int(b.K) })
	return l
}

// verdict asks the four rules there may be that speak of a deed, by their names.
func (m set) verdict(d deed) uint32 {
	says := []uint32{m[d], m[deed{d.who, 0}], m[deed{0, d.what}], m[deed{0, 0}]}
	return slices.Max(says)
}

// do is what the chapter says of an operation that fits.
func (m set) do(c api.Config, o api.Op) (set, api.Res) {
	out, d := maps.Clone(m), deed{o.A, o.B}
	said, there := m[d]
	switch {
	case o.Kind == api.OpCheck:
		return out, api.Res{V: m.verdict(d)}
	case o.Kind == api.OpAdd && !there && len(m) == c.Cap:
		return out, api.Res{Code: api.ErrFull}
	case o.Kind == api.OpAdd:
		out[d] = o.C
	case !there:
		return out, api.Res{Code: api.ErrNone}
	default:
		delete(out, d)
	}
	return out, api.Res{V: said}
}

// isRes holds an answer of rules against another one; none of them has rows.
func isRes(r, want api.Res) bool {
	return r.Code == want.Code && r.V == want.V && len(r.Rows) == 0
}

// checkDo asks Do of an operation that fits, and holds it against the chapter's words; it answers the rows behind it.
func checkDo(t *testing.T, c api.Config, l []api.Row, o api.Op) []api.Row {
	t.Helper()
	m, want := readSet(l).do(c, o)
	rows := m.rows()
	out, r, e := rules.Do(c, l, o)
	if e != api.OK || !isRes(r, want) || !slices.Equal(out, rows) {
		t.Fatalf("Cap %d: Do(%v, %v) = %v, %v, %d, not %v, %v", c.Cap, l, o, out, r, e, rows, want)
	}
	if !rules.Is(c, out) {
		t.Fatalf("Do(%v, %v) answers %v, which may not be rules", l, o, out)
	}
	return out
}

// told is what an operation answers, of the greatest Cap.
func told(t *testing.T, l []api.Row, o api.Op) api.Res {
	t.Helper()
	_, r, e := rules.Do(sized(32), l, o)
	if e != api.OK {
		t.Fatalf("Do(%v, %v): %d", l, o, e)
	}
	return r
}

// spoken are deeds that rules of the tests speak of, at the edges and between them; they rise.
var spoken = []deed{{0, 0}, {0, 7}, {1, 0}, {1, 7}, {2, 7}, {7, 1}, {maxWho, maxWho}}

// asked are deeds of somebody and something: spoken of by name, or by the half, or not at all.
var asked = []deed{{1, 1}, {1, 7}, {2, 7}, {7, 1}, {7, 7}, {7, 2}, {1, maxWho}, {maxWho, 1}, {maxWho, 7}, {maxWho, maxWho}, {256, 256}}

// everySet has all rules there are of some deeds: each is not there, allows, or denies.
func everySet(deeds []deed) [][]api.Row {
	all := [][]api.Row{nil}
	for _, d := range deeds {
		for _, l := range all[:len(all):len(all)] {
			all = append(all, append(slices.Clone(l), rule(d.who, d.what, allow)), append(slices.Clone(l), rule(d.who, d.what, deny)))
		}
	}
	return all
}

// fitting has all operations that fit, of the deeds that are spoken of or asked.
func fitting() []api.Op {
	var l []api.Op
	for _, d := range slices.Concat(spoken, asked) {
		l = append(l, add(d.who, d.what, allow), add(d.who, d.what, deny), drop(d.who, d.what))
	}
	for _, d := range asked {
		l = append(l, check(d.who, d.what))
	}
	return l
}

// P8.1: the chapter's examples.
func TestExamples(t *testing.T) {
	one, seven, anybody := rule(1, 0, allow), rule(1, 7, deny), rule(0, 7, allow)
	two, three := []api.Row{one, seven}, []api.Row{anybody, one, seven}
	for _, x := range []struct {
		l    []api.Row
		o    api.Op
		out  []api.Row
		want api.Res
	}{
		{two, check(1, 5), two, api.Res{V: 1}},
		{two, check(1, 7), two, api.Res{V: 2}},
		{two, check(2, 7), two, api.Res{}},
		{two, add(0, 7, allow), three, api.Res{}},
		{three, check(2, 7), three, api.Res{V: 1}},
		{three, add(3, 3, allow), three, api.Res{Code: api.ErrFull}},
		{three, add(1, 7, allow), []api.Row{anybody, one, rule(1, 7, allow)}, api.Res{V: 2}},
		{two, drop(1, 1), two, api.Res{Code: api.ErrNone}},
		{two, drop(1, 0), []api.Row{seven}, api.Res{V: 1}},
	} {
		if out, r, e := rules.Do(example, x.l, x.o); e != api.OK || !isRes(r, x.want) || !slices.Equal(out, x.out) {
			t.Errorf("Do(%v, %v) = %v, %v, %d", x.l, x.o, out, r, e)
		}
	}
}

// P8.1: every operation of few deeds, on all rules there are of them, of each Cap that holds them.
func TestDoEverywhereOfFewDeeds(t *testing.T) {
	ops := fitting()
	for _, l := range everySet(spoken) {
		for most := max(len(l), 1); most <= len(l)+1; most++ {
			for _, o := range ops {
				checkDo(t, sized(most), l, o)
			}
		}
	}
}

// next is a number behind another one, in an order that looks like none.
func next(n uint64) uint64 {
	return n*6364136223846793005 + 1442695040888963407
}

// someOp is one that fits, told by a number, of names below many.
func someOp(many uint32, n uint64) api.Op {
	who, what := uint32(n>>44)%many, uint32(n>>24)%many
	switch n >> 33 % 8 {
	case 0, 1, 2:
		return add(who, what, 1+uint32(n>>60&1))
	case 3, 4:
		return drop(who, what)
	}
	return check(max(who, 1), max(what, 1))
}

// P8.1, P8.3: long rows of operations, of small and great Caps, of few names and of many; each goes on where the one ahead of it ended.
func TestDoLongRows(t *testing.T) {
	n := uint64(8)
	for _, most := range []int{1, 2, 5, 16, 32} {
		for _, many := range []uint32{2, 4, 9, maxWho + 1} {
			var l []api.Row
			for range 2000 {
				n = next(n)
				l = checkDo(t, sized(most), l, someOp(many, n))
			}
		}
	}
}

// P8.1: only Cap counts of a config of ObjAccess that may be.
func TestDoOfOtherConfigs(t *testing.T) {
	striped := example
	striped.Kind, striped.Stripes, striped.Most = api.KindStripes, 4, 1
	great := example
	great.Instances, great.Threads, great.Batch, great.Limit = 4, 16, 16, 1<<62
	for _, c := range []api.Config{striped, great} {
		for _, l := range everySet(spoken[:3]) {
			for _, o := range fitting() {
				checkDo(t, c, l, o)
			}
		}
	}
}

// P8.1: what stands at the limits: the rule of anybody and anything, the last one there may be, and those of halves, which speak of nobody else's.
func TestDoAtTheLimits(t *testing.T) {
	all, last := rule(0, 0, allow), rule(maxWho, maxWho, deny)
	for _, x := range []struct {
		l    []api.Row
		o    api.Op
		want api.Res
	}{
		{[]api.Row{all}, check(1, 1), api.Res{V: allow}},
		{[]api.Row{all}, check(maxWho, maxWho), api.Res{V: allow}},
		{[]api.Row{all, last}, check(maxWho, maxWho), api.Res{V: deny}},
		{[]api.Row{all, last}, check(maxWho, maxWho-1), api.Res{V: allow}},
		{[]api.Row{last}, check(maxWho-1, maxWho), api.Res{}},
		{[]api.Row{rule(0, maxWho, deny)}, check(maxWho, 1), api.Res{}},
		{[]api.Row{rule(0, maxWho, deny)}, check(1, maxWho), api.Res{V: deny}},
		{[]api.Row{rule(maxWho, 0, deny)}, check(maxWho, 1), api.Res{V: deny}},
		{[]api.Row{rule(maxWho, 0, deny)}, check(1, maxWho), api.Res{}},
		{[]api.Row{all, last}, drop(0, 0), api.Res{V: allow}},
		{[]api.Row{all, last}, drop(maxWho, maxWho), api.Res{V: deny}},
		{[]api.Row{all, last}, add(maxWho, maxWho, allow), api.Res{V: deny}},
		{[]api.Row{all, last}, add(0, 0, deny), api.Res{V: allow}},
	} {
		if _, r, e := rules.Do(example, x.l, x.o); e != api.OK || !isRes(r, x.want) {
			t.Errorf("Do(%v, %v) = %v, %d, not %v", x.l, x.o, r, e, x.want)
		}
	}
}

// P8.1: one that denies is heard wherever it stands among such as allow: ahead of them, between, or behind.
func TestDenyIsHeardWhereverItStands(t *testing.T) {
	four := []deed{{0, 0}, {0, 7}, {1, 0}, {1, 7}}
	for at := range four {
		var l []api.Row
		for i, d := range four {
			l = append(l, rule(d.who, d.what, allow))
			if i == at {
				l[i].V = deny
			}
		}
		if r := told(t, l, check(1, 7)); !isRes(r, api.Res{V: deny}) {
			t.Errorf("of %v: %v", l, r)
		}
	}
}

// P8.1: the rule of anybody is dropped by 0 alone, and drops nobody else's.
func TestTheRuleOfAnybodyIsThatOf0Alone(t *testing.T) {
	l := []api.Row{rule(0, 7, allow), rule(1, 0, deny), rule(1, 7, allow)}
	for _, o := range []api.Op{drop(2, 7), drop(1, 5), drop(0, 0), drop(7, 0)} {
		if out, r, _ := rules.Do(example, l, o); !isRes(r, api.Res{Code: api.ErrNone}) || !slices.Equal(out, l) {
			t.Errorf("Do(%v) = %v, %v", o, out, r)
		}
	}
	if out, r, _ := rules.Do(example, l, drop(0, 7)); !isRes(r, api.Res{V: allow}) || !slices.Equal(out, l[1:]) {
		t.Errorf("%v, %v", out, r)
	}
}

// P8.1: up to Cap rules all are put in; behind that none is, but what one says that is there still becomes another.
func TestAddWhereThereAreCapRows(t *testing.T) {
	for most := 1; most <= 32; most++ {
		c := sized(most)
		var l []api.Row
		for i := range uint32(most) {
			l = checkDo(t, c, l, add(1000-10*i, i%3, 1+i%2))
		}
		if len(l) != most {
			t.Fatalf("Cap %d: %v", most, l)
		}
		for _, o := range []api.Op{add(0, 0, deny), add(995, 0, allow), add(1000, 1, allow), add(maxWho, maxWho, deny)} {
			if out, r, e := rules.Do(c, l, o); e != api.OK || !isRes(r, api.Res{Code: api.ErrFull}) || !slices.Equal(out, l) {
				t.Errorf("Cap %d: %v, %v, %d", most, out, r, e)
			}
		}
		out, r, e := rules.Do(c, l, add(1000, 0, deny))
		if e != api.OK || !isRes(r, api.Res{V: allow}) || len(out) != most || out[most-1] != rule(1000, 0, deny) {
			t.Errorf("Cap %d: %v, %v, %d", most, out, r, e)
		}
	}
}

// anyOps are such as fit and such as do not.
func anyOps() []api.Op {
	return []api.Op{{}, add(1, 7, allow), drop(1, 7), check(1, 7), add(1, 7, 0), drop(maxWho+1, 0), check(0, 7), {Kind: api.OpGet, A: 1}, {Kind: 255}}
}

func checkRefused(t *testing.T, c api.Config, l []api.Row, want api.Errno) {
	t.Helper()
	if rules.Is(c, l) {
		t.Errorf("Is(%+v, %v)", c, l)
	}
	for _, o := range anyOps() {
		if out, r, e := rules.Do(c, l, o); e != want || len(out) != 0 || !isRes(r, api.Res{}) {
			t.Errorf("Do(%+v, %v, %v) = %v, %v, %d, not %d", c, l, o, out, r, e, want)
		}
	}
}

// badConfigs are no rules': of other objects, or such as may not be.
func badConfigs() []api.Config {
	routes, index, settings := example, example, example
	routes.Object, routes.Bits = api.ObjRoute, 3
	index.Object, index.Node, index.Chunk = api.ObjIndex, 2, 1
	settings.Object = api.ObjConfig
	l := []api.Config{{}, {Object: api.ObjAccess}, routes, index, settings}
	for _, object := range []uint8{0, 1, 2, 5, 255} {
		l = append(l, api.Config{Object: object, Instances: 2, Threads: 1, Kind: api.KindSlots, Cap: 3, Batch: 1, Limit: 131072})
	}
	for _, most := range []int{math.MinInt, -1, 0, 33, math.MaxInt} {
		l = append(l, sized(most))
	}
	bits, stripes, limit := example, example, example
	bits.Bits, stripes.Stripes, limit.Limit = 1, 1, 131071
	return append(l, bits, stripes, limit)
}

// P8.1, P1: a config that may not be, or is another object's, is told ahead of bad rows and of bad operations.
func TestBadConfigs(t *testing.T) {
	for _, c := range badConfigs() {
		for _, l := range [][]api.Row{nil, {rule(1, 7, deny)}, {{K: 3}}, {rule(1, 1, 1), rule(1, 1, 1)}} {
			checkRefused(t, c, l, api.ErrConf)
		}
	}
}

// P8.1, P1: rows that may not be rules, of Cap 3: too many, such as do not rise, of keys beyond all, or that say what no rule does.
func TestBadRows(t *testing.T) {
	for _, l := range [][]api.Row{
		{rule(0, 0, 1), rule(0, 1, 1), rule(0, 2, 1), rule(0, 3, 1)},
		{rule(0, 0, 1), rule(0, 0, 1)},
		{rule(3, 3, 1), rule(3, 3, 2)},
		{rule(2, 0, 1), rule(1, 9, 1)},
		{rule(1, 0, 1), rule(3, 0, 1), rule(2, 0, 1)},
		{rule(1, 0, 1), rule(2, 0, 1), rule(1, 0, 1)},
		{rule(maxWho, maxWho, 1), rule(maxWho, maxWho, 2)},
		{{K: 1 << 32, V: 1}},
		{{K: 1<<32 + 65543, V: 1}},
		{{K: 1 << 63, V: 1}},
		{{K: math.MaxUint64, V: 1}},
		{{K: math.MaxUint64, V: 1}, {K: 0, V: 1}},
		{{K: 1}},
		{rule(1, 1, 0)},
		{rule(1, 1, 3)},
		{rule(1, 1, 1<<32+1)},
		{rule(1, 1, math.MaxUint64)},
		{rule(1, 1, 1), rule(1, 2, 0)},
		{rule(1, 1, 1), rule(1, 2, 2), rule(1, 3, 3)},
	} {
		checkRefused(t, example, l, api.ErrArg)
	}
}

// P8.1: rows that may be rules, of Cap 3: up to that many, whoever they speak of, and whatever they say.
func TestGoodRows(t *testing.T) {
	for _, l := range [][]api.Row{
		nil,
		{},
		{rule(0, 0, 1)},
		{rule(0, 0, 2), rule(0, 1, 2), rule(1, 0, 2)},
		{rule(0, maxWho, 1), rule(1, 0, 2), rule(1, 1, 1)},
		{rule(maxWho, 0, 1), rule(maxWho, maxWho, 2)},
	} {
		if !rules.Is(example, l) {
			t.Errorf("Is not %v", l)
		}
		for _, o := range anyOps() {
			if _, _, e := rules.Do(example, l, o); e != api.OK {
				t.Errorf("Do(%v, %v) = %d", l, o, e)
			}
		}
	}
}

// P8.1: of each Cap how many rows there may be.
func TestIsOfEveryCap(t *testing.T) {
	for most := 1; most <= 32; most++ {
		var l []api.Row
		for many := range uint32(40) {
			if got := rules.Is(sized(most), l); got != (int(many) <= most) {
				t.Errorf("Is of Cap %d and %d rows: %v", most, many, got)
			}
			l = append(l, rule(many*many, 5, deny))
		}
	}
}

// P8.1: where op.Check has an error, that is the Code, V is 0, and the rows are as they were.
func TestDoWhatDoesNotFit(t *testing.T) {
	l := []api.Row{rule(0, 0, deny), rule(1, 7, deny)}
	numbers := []uint32{0, 1, 7, maxWho, maxWho + 1, 65543, math.MaxUint32}
	for kind := range 256 {
		for _, a := range numbers {
			for _, b := range numbers {
				for _, third := range []uint32{0, 1, 2, 3, math.MaxUint32} {
					checkCode(t, l, api.Op{Kind: uint8(kind), A: a, B: b, C: third})
				}
			}
		}
	}
}

func checkCode(t *testing.T, l []api.Row, o api.Op) {
	t.Helper()
	code := op.Check(example, o)
	if code == api.OK {
		checkDo(t, example, l, o)
		return
	}
	if out, r, e := rules.Do(example, l, o); e != api.OK || !isRes(r, api.Res{Code: code}) || !slices.Equal(out, l) {
		t.Errorf("Do(%v, %v) = %v, %v, %d, not the code %d", l, o, out, r, e, code)
	}
}

// P8.1: the codes of what does not fit, by hand.
func TestDoTellsTheCodes(t *testing.T) {
	l := []api.Row{rule(0, 0, allow), rule(1, 7, deny)}
	for _, x := range []struct {
		o    api.Op
		want api.Errno
	}{
		{api.Op{}, api.ErrOp},
		{api.Op{Kind: api.OpPut, A: 1, B: 7}, api.ErrOp},
		{api.Op{Kind: api.OpSet, A: 1}, api.ErrOp},
		{api.Op{Kind: 15}, api.ErrOp},
		{add(1, 7, 0), api.ErrOver},
		{add(1, 7, 3), api.ErrOver},
		{add(maxWho+1, 7, allow), api.ErrOver},
		{add(1, maxWho+1, allow), api.ErrOver},
		{drop(65543, 0), api.ErrOver},
		{drop(0, 65543), api.ErrOver},
		{api.Op{Kind: api.OpDrop, A: 1, B: 7, C: deny}, api.ErrOver},
		{check(0, 7), api.ErrOver},
		{check(1, 0), api.ErrOver},
		{check(maxWho+1, 7), api.ErrOver},
		{check(1, maxWho+1), api.ErrOver},
		{api.Op{Kind: api.OpCheck, A: 1, B: 7, C: 1}, api.ErrOver},
	} {
		if out, r, e := rules.Do(example, l, x.o); e != api.OK || !isRes(r, api.Res{Code: x.want}) || !slices.Equal(out, l) {
			t.Errorf("Do(%v) = %v, %v, %d, not the code %d", x.o, out, r, e, x.want)
		}
	}
}

// P8.2: what is handed in is only read, also what lies behind the rows in their memory; what is answered shares none with it.
func TestDoAnswersNewMemory(t *testing.T) {
	behind := api.Row{K: 99, V: 99}
	for _, o := range slices.Concat(fitting(), anyOps()) {
		all := []api.Row{rule(0, 7, allow), rule(1, 0, allow), rule(1, 7, deny), behind, behind}
		l, kept := all[:3], slices.Clone(all)
		out, _, _ := rules.Do(sized(4), l, o)
		again, _, _ := rules.Do(sized(4), l, o)
		rows := slices.Clone(again)
		out = out[:cap(out)]
		for i := range out {
			out[i] = api.Row{K: 77, V: 77}
		}
		if !slices.Equal(all, kept) || !slices.Equal(again, rows) {
			t.Fatalf("what %v answers is other rows' memory, or it turned %v to %v", o, kept, all)
		}
	}
}

// Rules of DOC.md: nothing is kept from call to call; asked backwards, all calls answer what they did.
func TestNothingIsKept(t *testing.T) {
	type answer struct {
		out []api.Row
		r   api.Res
	}
	var first []answer
	all, ops := everySet(spoken[1:5]), fitting()
	for _, l := range all {
		for _, o := range ops {
			out, r, _ := rules.Do(sized(4), l, o)
			first = append(first, answer{out, r})
		}
	}
	slices.Reverse(first)
	for _, l := range slices.Backward(all) {
		for _, o := range slices.Backward(ops) {
			was := first[0]
			first = first[1:]
			if out, r, e := rules.Do(sized(4), l, o); e != api.OK || !isRes(r, was.r) || !slices.Equal(out, was.out) {
				t.Fatalf("Do(%v, %v) = %v, %v, %d, and before %v", l, o, out, r, e, was)
			}
		}
	}
}

// P8.3: a code other than OK leaves the rows; so does OpCheck.
func TestWhatLeavesTheRows(t *testing.T) {
	for _, l := range everySet(spoken[:5]) {
		for _, o := range slices.Concat(fitting(), anyOps()) {
			out, r, _ := rules.Do(sized(5), l, o)
			if (r.Code != api.OK || o.Kind == api.OpCheck) && !slices.Equal(out, l) {
				t.Errorf("Do(%v, %v) = %v, %v", l, o, out, r)
			}
		}
	}
}

// P8.3: where a rule that denies is put in, all that it speaks of are denied, whatever else there is, and nobody else's verdict is another one.
func TestARuleThatDeniesOverrides(t *testing.T) {
	for _, l := range everySet(spoken) {
		for _, d := range spoken {
			out, r, _ := rules.Do(sized(32), l, add(d.who, d.what, deny))
			if r.Code != api.OK {
				t.Fatalf("%v put into %v: %v", d, l, r)
			}
			for _, a := range asked {
				want := told(t, l, check(a.who, a.what))
				if (d.who == 0 || d.who == a.who) && (d.what == 0 || d.what == a.what) {
					want = api.Res{V: deny}
				}
				if got := told(t, out, check(a.who, a.what)); !isRes(got, want) {
					t.Errorf("%v is told of %v, where %v is denied beside %v", got, a, d, l)
				}
			}
		}
	}
}

// P8.3: where a rule that allows is put in, nobody is denied who was not.
func TestARuleThatAllowsDeniesNobody(t *testing.T) {
	for _, l := range everySet(spoken) {
		for _, d := range spoken {
			out, _, _ := rules.Do(sized(32), l, add(d.who, d.what, allow))
			for _, a := range asked {
				was, is := told(t, l, check(a.who, a.what)), told(t, out, check(a.who, a.what))
				if is.V == deny && was.V != deny {
					t.Errorf("%v is denied, where %v is allowed beside %v", a, d, l)
				}
			}
		}
	}
}
