package gate_test

import (
	"cmp"
	"math"
	"slices"
	"testing"

	"bascule/api"
	"bascule/gate"
	"bascule/reg"
	"bascule/rules"
)

func add(who, what, says uint32) api.Op {
	return api.Op{Kind: api.OpAdd, A: who, B: what, C: says}
}

func drop(who, what uint32) api.Op { return api.Op{Kind: api.OpDrop, A: who, B: what} }

func ask(who, what uint32) api.Op { return api.Op{Kind: api.OpCheck, A: who, B: what} }

func read(at int) api.Act { return api.Act{Kind: api.ActRead, At: at} }

func write(at int, says, who, what uint64) api.Act {
	return api.Act{Kind: api.ActWrite, At: at, A: says, B: who, C: what}
}

func over(word uint32) api.Act { return api.Act{Kind: api.ActDone, V: word} }

func refused(code api.Errno) api.Act { return api.Act{Kind: api.ActDone, Code: code} }

// bound is how many acts there are at most, but for that which ends them.
func bound(c api.Config, kind uint8) int {
	if kind == api.OpCheck {
		return c.Cap
	}
	return c.Cap + 1
}

// instance is one that stands alone; the tags are another layer's, and stay.
type instance struct {
	c     api.Config
	cells []api.Cell
}

// newInstance has rules from its first cell on, and noughts behind them.
func newInstance(c api.Config, rules ...api.Cell) instance {
	x := instance{c: c, cells: make([]api.Cell, c.Cap)}
	copy(x.cells, rules)
	for i := range x.cells {
		x.cells[i].Tag = uint64(100 + i)
	}
	return x
}

// do does an operation alone, act by act, and answers all of them, the last one too.
func (x instance) do(t *testing.T, o api.Op) []api.Act {
	t.Helper()
	var done []api.Act
	for f := reg.Start(o); ; {
		a, e := gate.Next(x.c, f)
		if e != api.OK || len(done) > bound(x.c, o.Kind) {
			t.Fatalf("%v of %v: %d behind %v", o, x.cells, e, done)
		}
		done = append(done, a)
		if a.Kind == api.ActDone {
			return done
		}
		l := &x.cells[a.At]
		if a.Kind == api.ActWrite {
			*l = api.Cell{Tag: l.Tag, A: a.A, B: a.B, C: a.C}
		}
		f, _ = gate.After(x.c, f, *l)
	}
}

// rows are what an instance means, by the chapter's words; it is no instance, if a cell without a rule is not noughts.
func (x instance) rows(t *testing.T) []api.Row {
	t.Helper()
	var l []api.Row
	for i, at := range x.cells {
		if at.A != 0 {
			l = append(l, api.Row{K: 65536*at.B + at.C, V: at.A})
		} else if at.B != 0 || at.C != 0 {
			t.Fatalf("the cell %d is %v", i, at)
		}
		if at.Tag != uint64(100+i) {
			t.Fatalf("the cell %d has the tag %d", i, at.Tag)
		}
	}
	slices.SortFunc(l, func(a, b api.Row) int { return cmp.Compare(a.K, b.K) })
	return l
}

// checkAlone does an operation on an instance, and holds it against the model; it answers how many rows there are behind it.
func checkAlone(t *testing.T, x instance, o api.Op) int {
	t.Helper()
	rows := x.rows(t)
	acts := x.do(t, o)
	out, r, e := rules.Do(x.c, rows, o)
	if end := acts[len(acts)-1]; e != api.OK || end != (api.Act{Kind: api.ActDone, Code: r.Code, V: r.V}) {
		t.Fatalf("Cap %d: %v of %v tells %+v, and the model %v, %d", x.c.Cap, o, rows, end, r, e)
	}
	if got := x.rows(t); !slices.Equal(got, out) {
		t.Fatalf("Cap %d: %v of %v leaves %v, not %v", x.c.Cap, o, rows, got, out)
	}
	writes := 0
	for _, a := range acts {
		if a.Kind == api.ActWrite {
			writes++
		}
	}
	if want := o.Kind != api.OpCheck && r.Code == api.OK; writes > 1 || (writes == 1) != want {
		t.Fatalf("%v of %v writes %d cells: %v", o, rows, writes, acts)
	}
	return len(out)
}

// P14.3: the chapter's examples, act by act, one behind the other.
func TestExamples(t *testing.T) {
	x := newInstance(example)
	for _, s := range []struct {
		o    api.Op
		want []api.Act
	}{
		{add(1, 7, api.Deny), []api.Act{read(0), read(1), read(2), write(0, 2, 1, 7), over(0)}},
		{add(1, 0, api.Allow), []api.Act{read(0), read(1), read(2), write(1, 1, 1, 0), over(0)}},
		{ask(1, 7), []api.Act{read(0), over(2)}},
		{ask(1, 5), []api.Act{read(0), read(1), read(2), over(1)}},
		{drop(1, 7), []api.Act{read(0), write(0, 0, 0, 0), over(2)}},
	} {
		if l := x.do(t, s.o); !slices.Equal(l, s.want) {
			t.Errorf("%v does %+v, not %+v", s.o, l, s.want)
		}
	}
	if rows := x.rows(t); !slices.Equal(rows, []api.Row{{K: 65536, V: 1}}) {
		t.Error(rows)
	}
}

// P14.3: other operations, act by act, of an instance that has rules with room between them, and of one that is full.
func TestActsOnAnInstance(t *testing.T) {
	room := []api.Cell{{A: 1, B: 1, C: 7}, {}, {A: 2, C: 7}, {}}
	full := []api.Cell{{A: 1, B: 1, C: 7}, {A: 2, B: 2}, {A: 1}}
	for _, s := range []struct {
		cells []api.Cell
		o     api.Op
		want  []api.Act
	}{
		{room, add(3, 3, api.Allow), []api.Act{read(0), read(1), read(2), read(3), write(1, 1, 3, 3), over(0)}},
		{room, add(0, 7, api.Allow), []api.Act{read(0), read(1), read(2), write(2, 1, 0, 7), over(2)}},
		{room, add(1, 7, api.Allow), []api.Act{read(0), write(0, 1, 1, 7), over(1)}},
		{room, add(0, 0, api.Deny), []api.Act{read(0), read(1), read(2), read(3), write(1, 2, 0, 0), over(0)}},
		{room, drop(0, 7), []api.Act{read(0), read(1), read(2), write(2, 0, 0, 0), over(2)}},
		{room, drop(0, 0), []api.Act{read(0), read(1), read(2), read(3), refused(api.ErrNone)}},
		{room, drop(2, 7), []api.Act{read(0), read(1), read(2), read(3), refused(api.ErrNone)}},
		{room, ask(1, 7), []api.Act{read(0), read(1), read(2), over(2)}},
		{room, ask(1, 8), []api.Act{read(0), read(1), read(2), read(3), over(0)}},
		{full, add(1, 1, api.Allow), []api.Act{read(0), read(1), read(2), refused(api.ErrFull)}},
		{full, add(0, 0, api.Deny), []api.Act{read(0), read(1), read(2), write(2, 2, 0, 0), over(1)}},
		{full, drop(0, 0), []api.Act{read(0), read(1), read(2), write(2, 0, 0, 0), over(1)}},
		{full, drop(2, 7), []api.Act{read(0), read(1), read(2), refused(api.ErrNone)}},
		{full, ask(2, 9), []api.Act{read(0), read(1), over(2)}},
		{full, ask(3, 9), []api.Act{read(0), read(1), read(2), over(1)}},
	} {
		x := newInstance(sized(len(s.cells)), s.cells...)
		if l := x.do(t, s.o); !slices.Equal(l, s.want) {
			t.Errorf("%v of %v does %+v, not %+v", s.o, s.cells, l, s.want)
		}
	}
}

// longest is how many acts a frame has ahead of it at most, whatever it reads out of some cells.
type longest struct {
	c     api.Config
	cells []api.Cell
	known map[api.Frame]int
}

func (x longest) from(t *testing.T, f api.Frame, sofar int) int {
	t.Helper()
	if n, ok := x.known[f]; ok {
		return n
	}
	a, e := gate.Next(x.c, f)
	if e != api.OK || sofar > bound(x.c, f.Kind) {
		t.Fatalf("%+v behind %d acts: %+v, %d", f, sofar, a, e)
	}
	if a.Kind == api.ActDone {
		return 0
	}
	if a.At < 0 || a.At >= x.c.Cap || a.Kind != api.ActRead && (a.Kind != api.ActWrite || f.Kind == api.OpCheck) {
		t.Fatalf("%+v does %+v", f, a)
	}
	most := 0
	for _, l := range x.cells {
		g, _ := gate.After(x.c, f, l)
		most = max(most, 1+x.from(t, g, sofar+1))
	}
	x.known[f] = most
	return most
}

// P14.3: whatever it reads, a program is done in time, goes on by frames that may be, and stays at its cells; and the bounds are met.
func TestWhateverItReads(t *testing.T) {
	ops := []api.Op{
		add(0, 0, api.Allow), add(1, 7, api.Deny), add(maxWho, 0, api.Allow), drop(0, 0), drop(1, 7), drop(maxWho, maxWho), ask(1, 7), ask(maxWho, maxWho),
	}
	for most := 1; most <= 32; most++ {
		c := sized(most)
		for _, o := range ops {
			x := longest{c: c, cells: someCells(reg.Start(o)), known: map[api.Frame]int{}}
			if n := x.from(t, reg.Start(o), 0); n != bound(c, o.Kind) {
				t.Errorf("%v of Cap %d has %d acts at most", o, most, n)
			}
		}
	}
}

// fitting has all operations that fit, of some numbers for who and what.
func fitting(numbers []uint32) []api.Op {
	var l []api.Op
	for _, who := range numbers {
		for _, what := range numbers {
			l = append(l, add(who, what, api.Allow), add(who, what, api.Deny), drop(who, what))
			if who != 0 && what != 0 {
				l = append(l, ask(who, what))
			}
		}
	}
	return l
}

// someRules are none, and all rules of some numbers.
func someRules(numbers []uint32) []api.Cell {
	l := []api.Cell{{}}
	for _, o := range fitting(numbers) {
		if o.Kind == api.OpAdd {
			l = append(l, api.Cell{A: uint64(o.C), B: uint64(o.A), C: uint64(o.B)})
		}
	}
	return l
}

// everyInstance tells of all instances with some rules in their cells, none of which says two things.
func everyInstance(most int, rules []api.Cell, tell func(cells []api.Cell)) {
	var fill func(cells []api.Cell)
	fill = func(cells []api.Cell) {
		if len(cells) == most {
			tell(cells)
			return
		}
		for _, r := range rules {
			twice := func(l api.Cell) bool { return r.A != 0 && l.A != 0 && l.B == r.B && l.C == r.C }
			if !slices.ContainsFunc(cells, twice) {
				fill(append(slices.Clone(cells), r))
			}
		}
	}
	fill(nil)
}

// P14.3: every operation of few numbers, on every instance there is of them, wherever its rules stand, held against the model.
func TestEveryInstanceOfFewNumbers(t *testing.T) {
	for most, numbers := range map[int][]uint32{1: {0, 1, 7, maxWho}, 2: {0, 1, maxWho}, 3: {0, 7}, 4: {0, 1}} {
		ops := fitting(append([]uint32{3}, numbers...))
		everyInstance(most, someRules(numbers), func(cells []api.Cell) {
			for _, o := range ops {
				checkAlone(t, newInstance(sized(most), cells...), o)
			}
		})
	}
}

// P14.3: many operations one behind the other, from noughts on, of all sizes: what they leave and answer is the model's.
func TestAloneFromNoughtsOn(t *testing.T) {
	ops := fitting([]uint32{0, 1, 2, 300, 65534, maxWho})
	seed := uint64(14)
	for most := 1; most <= 32; most++ {
		x, full := newInstance(sized(most)), 0
		for range 2000 {
			seed = seed*6364136223846793005 + 1442695040888963407
			full = max(full, checkAlone(t, x, ops[seed>>33%uint64(len(ops))]))
		}
		if full < min(most, 24) {
			t.Errorf("of Cap %d there were %d rules at most", most, full)
		}
	}
}

// P14.3: an instance is filled up to Cap, holds no rule more, and is emptied from its middle on.
func TestFilledAndEmptied(t *testing.T) {
	for most := 1; most <= 32; most++ {
		x := newInstance(sized(most))
		for i := range uint32(most) {
			checkAlone(t, x, add(maxWho-i, i, 1+i%2))
		}
		for _, o := range []api.Op{add(1, 1, api.Deny), add(0, 0, api.Allow), add(maxWho, 0, api.Deny), drop(0, 0), ask(maxWho, 1), ask(1, maxWho)} {
			checkAlone(t, x, o)
		}
		for i := range uint32(most) {
			n := (i + uint32(most)/2) % uint32(most)
			checkAlone(t, x, drop(maxWho-n, n))
		}
		if !slices.Equal(x.cells, newInstance(sized(most)).cells) {
			t.Error(x.cells)
		}
	}
}

// P1: of any frame and any cell both calls end, and tell one and the same error; beside an error all else is nothing.
func TestAnyFrame(t *testing.T) {
	numbers := []uint32{0, 1, 3, maxWho, maxWho + 1, far}
	small := []uint8{0, 1, 2, 3, 31, 32, 127, 255}
	seed := uint64(1)
	draw := func(n int) int {
		seed = seed*6364136223846793005 + 1442695040888963407
		return int(seed >> 33 % uint64(n))
	}
	for range 200000 {
		number := func() uint32 { return numbers[draw(len(numbers))] }
		register := func() uint8 { return small[draw(len(small))] }
		f := api.Frame{
			Kind: uint8(8 + draw(5)), A: number(), B: number(), Pc: []uint8{0, 1, 2, 3, 19, 20, 21, 22, 23, 255}[draw(10)],
			I: register(), J: register(), N: register(), P: register(), H: register(), X: number(), Y: number(),
		}
		c := sized([]int{1, 2, 3, 32, 0, 33}[draw(6)])
		a, e := gate.Next(c, f)
		g, again := gate.After(c, f, api.Cell{Tag: 1, A: uint64(draw(4)), B: uint64(number()), C: math.MaxUint64 * uint64(draw(2))})
		if e != again || e != api.OK && (a != api.Act{} || g != api.Frame{}) || e == api.OK && a.Kind == api.ActNone {
			t.Fatalf("of Cap %d, %+v: %+v, %d; and %+v, %d", c.Cap, f, a, e, g, again)
		}
	}
}
