package cell_test

import (
	"math"
	"slices"
	"testing"

	"bascule/api"
	"bascule/cell"
)

const all = math.MaxUint64

var kinds = []uint8{api.AccLoad, api.AccStore, api.AccCas, api.AccAdd}

// cells differ in one field each, so that a comparison or a store that leaves a field out shows.
var cells = []api.Cell{{}, {Tag: 1}, {A: 1}, {B: 1}, {C: 1}, {Tag: 1, A: 2, B: 3, C: 4}, {Tag: 1, A: 2, B: 3, C: 5},
	{Tag: 4, A: 3, B: 2, C: 1}, {Tag: all, A: all, B: all, C: all}, {Tag: 1 << 63, A: 1 << 63, B: 1 << 32, C: 1 << 31}}

// badAts are no places of a memory of so many cells: such as miss by one, are far off, or are a place once they are cut short.
func badAts(count int) []int {
	l := []int{-1, -2, -count, -count - 1, count, count + 1, 2*count + 1, api.MaxCells, 1 << 16, 1 << 32, 1<<32 + count, -1 << 32,
		math.MinInt, math.MinInt + 1, math.MaxInt, math.MaxInt - 1}
	return slices.DeleteFunc(l, func(at int) bool { return at >= 0 && at < count })
}

func badKinds() []uint8 {
	l := []uint8{api.AccNone}
	for kind := 5; kind <= math.MaxUint8; kind++ {
		l = append(l, uint8(kind))
	}
	return l
}

// row is a memory's cells, each of its own.
func row(count int) []api.Cell {
	l := make([]api.Cell, count)
	for i := range l {
		n := uint64(i)
		l[i] = api.Cell{Tag: n, A: n + 1, B: n * n, C: all - n}
	}
	return l
}

func memory(t *testing.T, l []api.Cell) *cell.Mem {
	t.Helper()
	m, e := cell.New(l)
	if m == nil || e != api.OK {
		t.Fatalf("New of %d cells: %v, %d", len(l), m, e)
	}
	return m
}

// after says by the chapter's table what becomes of a cell, and whether it is done: field by field, by another way than the program's.
func after(was api.Cell, a api.Access) (api.Cell, bool) {
	same := was.Tag == a.Old.Tag && was.A == a.Old.A && was.B == a.Old.B && was.C == a.Old.C
	switch {
	case a.Kind == api.AccLoad:
		return was, true
	case a.Kind == api.AccStore:
		return api.Cell{Tag: a.New.Tag, A: a.New.A, B: a.New.B, C: a.New.C}, true
	case a.Kind == api.AccCas && same:
		return api.Cell{Tag: a.New.Tag, A: a.New.A, B: a.New.B, C: a.New.C}, true
	case a.Kind == api.AccCas:
		return was, false
	}
	sum := was.A + a.New.A
	return api.Cell{Tag: was.Tag, A: sum, B: was.B, C: was.C}, true
}

// The chapter's example, access by access, and by Run at once.
func TestExample(t *testing.T) {
	one, two := api.Cell{Tag: 1, A: 2, B: 3, C: 4}, api.Cell{Tag: 2}
	exchange := api.Access{Kind: api.AccCas, At: 1, Old: one, New: two}
	todo := []api.Access{{Kind: api.AccStore, At: 1, New: one}, {Kind: api.AccLoad, At: 1}, exchange, exchange,
		{Kind: api.AccAdd, At: 1, New: api.Cell{A: 5}}}
	want := []api.Seen{{Done: true}, {Cell: one, Done: true}, {Cell: one, Done: true}, {Cell: two}, {Cell: two, Done: true}}
	last := []api.Cell{{}, {Tag: 2, A: 5}}

	m := memory(t, make([]api.Cell, 2))
	for i, a := range todo {
		if s, e := m.Do(a); s != want[i] || e != api.OK {
			t.Errorf("access %d: %v, %d", i, s, e)
		}
	}
	beyond := api.Access{Kind: api.AccLoad, At: 2}
	if s, e := m.Do(beyond); s != (api.Seen{}) || e != api.ErrArg {
		t.Error(s, e)
	}
	if l := m.Cells(); !slices.Equal(l, last) {
		t.Error(l)
	}

	out, seen, e := cell.Run(make([]api.Cell, 2), todo)
	if !slices.Equal(out, last) || !slices.Equal(seen, want) || e != api.OK {
		t.Error(out, seen, e)
	}
	if out, seen, e := cell.Run(make([]api.Cell, 2), append(todo, beyond)); len(out) != 0 || len(seen) != 0 || e != api.ErrArg {
		t.Error(out, seen, e)
	}
}

// P2.1: memories of no cell, of a few, and of as many as may be hold what they are made of.
func TestNewHoldsItsCells(t *testing.T) {
	for _, count := range []int{0, 1, 2, 3, 1000, api.MaxCells - 1, api.MaxCells} {
		if l := memory(t, row(count)).Cells(); !slices.Equal(l, row(count)) {
			t.Errorf("of %d cells: %v", count, l)
		}
	}
	if l := memory(t, nil).Cells(); len(l) != 0 {
		t.Error(l)
	}
}

// P2.1, P1: one cell more than may be, and many more, are ErrMany with no memory.
func TestNewTooMany(t *testing.T) {
	for _, count := range []int{api.MaxCells + 1, api.MaxCells + 2, 2 * api.MaxCells, 1 << 16, 1<<16 + 1} {
		if m, e := cell.New(make([]api.Cell, count)); m != nil || e != api.ErrMany {
			t.Errorf("of %d cells: %v, %d", count, m, e)
		}
	}
}

// P2.1, P2.2, P1: a memory that is nil, or that nobody made, has no cells and no place.
func TestNoMemory(t *testing.T) {
	var none *cell.Mem
	for _, m := range []*cell.Mem{none, new(cell.Mem), memory(t, nil), memory(t, []api.Cell{})} {
		if l := m.Cells(); len(l) != 0 {
			t.Error(l)
		}
		for _, kind := range append(badKinds(), kinds...) {
			for _, at := range append(badAts(0), 0) {
				if s, e := m.Do(api.Access{Kind: kind, At: at, New: cells[5]}); s != (api.Seen{}) || e != api.ErrArg {
					t.Fatalf("kind %d at %d: %v, %d", kind, at, s, e)
				}
			}
		}
		if l := m.Cells(); len(l) != 0 {
			t.Error(l)
		}
	}
}

// P2.2, P2.5: of every cell each kind, with every cell as the expected and the new one: what is seen, what becomes of it, and that the others stay.
func TestDoEveryKind(t *testing.T) {
	for _, kind := range kinds {
		for at := range cells {
			for _, old := range cells {
				for _, put := range cells {
					checkDo(t, api.Access{Kind: kind, At: at, Old: old, New: put})
				}
			}
		}
	}
}

func checkDo(t *testing.T, a api.Access) {
	t.Helper()
	m := memory(t, cells)
	now, done := after(cells[a.At], a)
	if s, e := m.Do(a); s != (api.Seen{Cell: cells[a.At], Done: done}) || e != api.OK {
		t.Fatalf("%v: %v, %d", a, s, e)
	}
	want := slices.Clone(cells)
	want[a.At] = now
	if l := m.Cells(); !slices.Equal(l, want) {
		t.Fatalf("%v: cells %v", a, l)
	}
}

// P2.2: sums that go round, and what an add's other words say counts for nothing.
func TestAddGoesRound(t *testing.T) {
	for _, c := range []struct{ was, more, want uint64 }{
		{0, 0, 0}, {0, 5, 5}, {all, 1, 0}, {all, 2, 1}, {all, all, all - 1}, {1 << 63, 1 << 63, 0}, {1, all, 0},
		{math.MaxUint32, 1, 1 << 32}, {math.MaxInt64, 1, 1 << 63}, {5, all - 4, 0},
	} {
		m := memory(t, []api.Cell{{Tag: 7, A: c.was, B: 8, C: 9}})
		s, e := m.Do(api.Access{Kind: api.AccAdd, Old: cells[8], New: api.Cell{Tag: 70, A: c.more, B: 80, C: 90}})
		if s != (api.Seen{Cell: api.Cell{Tag: 7, A: c.was, B: 8, C: 9}, Done: true}) || e != api.OK {
			t.Errorf("%v: %v, %d", c, s, e)
		}
		if l := m.Cells(); !slices.Equal(l, []api.Cell{{Tag: 7, A: c.want, B: 8, C: 9}}) {
			t.Errorf("%v: %v", c, l)
		}
	}
}

// P2.2: an exchange that expects another cell in one word alone is not done; one of a cell for itself is, again and again.
func TestExchangeHoldsAllFourWords(t *testing.T) {
	is := api.Cell{Tag: 10, A: 20, B: 30, C: 40}
	for _, old := range []api.Cell{{Tag: 11, A: 20, B: 30, C: 40}, {Tag: 10, A: 21, B: 30, C: 40}, {Tag: 10, A: 20, B: 31, C: 40},
		{Tag: 10, A: 20, B: 30, C: 41}, {Tag: 10 + 1<<32, A: 20, B: 30, C: 40}, {Tag: 10, A: 20 + 1<<63, B: 30, C: 40}, {}} {
		m := memory(t, []api.Cell{is})
		if s, e := m.Do(api.Access{Kind: api.AccCas, Old: old, New: old}); s != (api.Seen{Cell: is}) || e != api.OK {
			t.Errorf("%v: %v, %d", old, s, e)
		}
		if l := m.Cells(); !slices.Equal(l, []api.Cell{is}) {
			t.Errorf("%v: %v", old, l)
		}
	}
	m := memory(t, []api.Cell{is})
	for range 3 {
		if s, e := m.Do(api.Access{Kind: api.AccCas, Old: is, New: is}); s != (api.Seen{Cell: is, Done: true}) || e != api.OK {
			t.Error(s, e)
		}
	}
}

// P2.2: the first and the last place of the greatest memory.
func TestDoAtTheEnds(t *testing.T) {
	m := memory(t, row(api.MaxCells))
	want := row(api.MaxCells)
	for _, at := range []int{0, 1, api.MaxCells - 2, api.MaxCells - 1} {
		if s, e := m.Do(api.Access{Kind: api.AccStore, At: at, New: cells[5]}); s != (api.Seen{Cell: want[at], Done: true}) || e != api.OK {
			t.Error(at, s, e)
		}
		want[at] = cells[5]
	}
	if !slices.Equal(m.Cells(), want) {
		t.Error("other cells were turned")
	}
}

// P2.2, P1: kinds and places that may not be are ErrArg with nothing beside it, and turn nothing; what comes behind them is done as ever.
func TestDoBadAccesses(t *testing.T) {
	var bad []api.Access
	for _, kind := range badKinds() {
		for _, at := range append(badAts(3), 0, 1, 2) {
			bad = append(bad, api.Access{Kind: kind, At: at, New: cells[5]})
		}
	}
	for _, kind := range kinds {
		for _, at := range badAts(3) {
			bad = append(bad, api.Access{Kind: kind, At: at, New: cells[5]})
		}
	}
	m := memory(t, make([]api.Cell, 3))
	for _, a := range bad {
		if s, e := m.Do(a); s != (api.Seen{}) || e != api.ErrArg {
			t.Fatalf("%v: %v, %d", a, s, e)
		}
		if l := m.Cells(); !slices.Equal(l, make([]api.Cell, 3)) {
			t.Fatalf("%v: cells %v", a, l)
		}
	}
	if s, e := m.Do(api.Access{Kind: api.AccAdd, At: 2, New: api.Cell{A: 1}}); s != (api.Seen{Done: true}) || e != api.OK {
		t.Error(s, e)
	}
}

// P2.3: no access, and no cell.
func TestRunOfNothing(t *testing.T) {
	for _, l := range [][]api.Cell{nil, {}, {{Tag: 1}}, row(api.MaxCells)} {
		for _, todo := range [][]api.Access{nil, {}} {
			out, seen, e := cell.Run(l, todo)
			if !slices.Equal(out, l) || len(seen) != 0 || e != api.OK {
				t.Errorf("of %d cells: %v, %v, %d", len(l), out, seen, e)
			}
		}
	}
}

// plan is a row of accesses of all kinds, made by a rule: some exchanges hit, some do not.
func plan(count, places int) []api.Access {
	todo := make([]api.Access, count)
	for i := range todo {
		todo[i] = api.Access{Kind: kinds[i*7/3%4], At: i * 5 % places, Old: cells[i/3%3], New: cells[i*i%3]}
	}
	return todo
}

// P2.3: as many accesses as may be see what they see one by one, and leave what they leave.
func TestRunSeesWhatDoSees(t *testing.T) {
	for _, count := range []int{1, 2, 3, 100, 4097, api.MaxPicks - 1, api.MaxPicks} {
		start := slices.Repeat(cells[:3], 2)
		want := slices.Clone(start)
		todo := plan(count, len(start))
		out, seen, e := cell.Run(start, todo)
		if len(seen) != count || e != api.OK {
			t.Fatalf("%d accesses: %d seen, %d", count, len(seen), e)
		}
		m := memory(t, start)
		for i, a := range todo {
			now, done := after(want[a.At], a)
			if seen[i] != (api.Seen{Cell: want[a.At], Done: done}) {
				t.Fatalf("access %d of %d: %v", i, count, seen[i])
			}
			if s, e := m.Do(a); s != seen[i] || e != api.OK {
				t.Fatalf("access %d of %d: Run saw %v, Do %v, %d", i, count, seen[i], s, e)
			}
			want[a.At] = now
		}
		if !slices.Equal(out, want) || !slices.Equal(m.Cells(), want) {
			t.Fatalf("%d accesses leave %v, %v", count, out, m.Cells())
		}
	}
}

// P2.3, P1: too many cells, or accesses, or both, are ErrMany, also where an access may not be besides.
func TestRunTooMany(t *testing.T) {
	good, bad := api.Access{Kind: api.AccLoad}, api.Access{Kind: 9, At: -1}
	for _, c := range []struct{ cells, accesses int }{
		{api.MaxCells + 1, 0}, {api.MaxCells + 1, 1}, {api.MaxCells + 1, api.MaxPicks}, {0, api.MaxPicks + 1}, {1, api.MaxPicks + 1},
		{api.MaxCells, api.MaxPicks + 1}, {api.MaxCells + 1, api.MaxPicks + 1}, {1 << 16, 2}, {1, 1 << 17},
	} {
		for _, a := range []api.Access{good, bad} {
			out, seen, e := cell.Run(make([]api.Cell, c.cells), slices.Repeat([]api.Access{a}, c.accesses))
			if len(out) != 0 || len(seen) != 0 || e != api.ErrMany {
				t.Errorf("%d cells, %d accesses of kind %d: %d", c.cells, c.accesses, a.Kind, e)
			}
		}
	}
}

// P2.3, P1: one access that may not be, wherever it stands, is the answer, with nothing beside it.
func TestRunBadAccess(t *testing.T) {
	for _, bad := range []api.Access{{}, {Kind: 5}, {Kind: 255}, {Kind: api.AccLoad, At: 4}, {Kind: api.AccStore, At: -1},
		{Kind: api.AccCas, At: math.MaxInt}, {Kind: api.AccAdd, At: math.MinInt}, {Kind: 0, At: 4}} {
		for _, place := range []int{0, 1, 49, 98, 99} {
			todo := plan(100, 4)
			todo[place] = bad
			if out, seen, e := cell.Run(make([]api.Cell, 4), todo); len(out) != 0 || len(seen) != 0 || e != api.ErrArg {
				t.Errorf("%v at %d: %v, %v, %d", bad, place, out, seen, e)
			}
		}
	}
	for _, l := range [][]api.Cell{nil, {}} {
		if out, seen, e := cell.Run(l, []api.Access{{Kind: api.AccLoad}}); len(out) != 0 || len(seen) != 0 || e != api.ErrArg {
			t.Error(out, seen, e)
		}
	}
}

// P2.4: a memory neither turns the row that it is made of, nor the cells behind its end, nor is it turned by whoever turns that.
func TestNewOnlyReads(t *testing.T) {
	room := row(5)
	m := memory(t, room[:3])
	for at := range 3 {
		m.Do(api.Access{Kind: api.AccStore, At: at, New: cells[8]})
	}
	if !slices.Equal(room, row(5)) {
		t.Error(room)
	}
	room[0], room[2] = cells[5], cells[6]
	if l := m.Cells(); !slices.Equal(l, []api.Cell{cells[8], cells[8], cells[8]}) {
		t.Error(l)
	}
}

// P2.4: what Cells answered is turned by no access behind it, and turns no memory; two memories of one row are two.
func TestCellsAnswersNewMemory(t *testing.T) {
	start := row(3)
	m, other := memory(t, start), memory(t, start)
	first := m.Cells()
	m.Do(api.Access{Kind: api.AccStore, At: 1, New: cells[8]})
	if !slices.Equal(first, row(3)) || !slices.Equal(other.Cells(), row(3)) {
		t.Error(first, other.Cells())
	}
	second := m.Cells()
	first[0], second[2] = cells[5], cells[6]
	_ = append(second, cells[7])
	if l := m.Cells(); !slices.Equal(l, []api.Cell{row(3)[0], cells[8], row(3)[2]}) {
		t.Error(l)
	}
}

// P2.4: Run turns neither list, nor what stands behind their ends, with errors and without; its answers are nobody else's.
func TestRunOnlyReads(t *testing.T) {
	for _, bad := range []bool{false, true} {
		room, todo := row(6), plan(50, 4)
		if bad {
			todo[40].At = 5
		}
		wasTodo := slices.Clone(todo)
		out, seen, _ := cell.Run(room[:4], todo[:45])
		again, seenAgain, _ := cell.Run(room[:4], todo[:45])
		wantOut, wantSeen := slices.Clone(again), slices.Clone(seenAgain)
		for i := range out {
			out[i] = cells[8]
		}
		for i := range seen {
			seen[i] = api.Seen{Cell: cells[8]}
		}
		_, _ = append(out, cells[8]), append(seen, api.Seen{})
		if !slices.Equal(room, row(6)) || !slices.Equal(todo, wasTodo) {
			t.Error("a list that was handed in was turned", bad)
		}
		if !slices.Equal(again, wantOut) || !slices.Equal(seenAgain, wantSeen) {
			t.Error("two answers share memory", bad)
		}
	}
}

// orders are all orders of so many numbers.
func orders(count int) [][]int {
	if count == 0 {
		return [][]int{nil}
	}
	var l [][]int
	for _, order := range orders(count - 1) {
		for i := range count {
			l = append(l, slices.Insert(slices.Clone(order), i, count-1))
		}
	}
	return l
}

// P2.5: of exchanges that expect one cell, the first is done and no other, in whatever order; none, if the cell is another one.
func TestFirstExchangeOnly(t *testing.T) {
	news := cells[1:6]
	for _, start := range []api.Cell{{}, {Tag: 99}} {
		for _, order := range orders(len(news)) {
			var todo []api.Access
			for _, n := range order {
				todo = append(todo, api.Access{Kind: api.AccCas, New: news[n]})
			}
			out, seen, e := cell.Run([]api.Cell{start}, todo)
			if e != api.OK {
				t.Fatal(e)
			}
			want := start
			for i, s := range seen {
				first := i == 0 && start == (api.Cell{})
				if s != (api.Seen{Cell: want, Done: first}) {
					t.Fatalf("order %v of %v: access %d saw %v", order, start, i, s)
				}
				if first {
					want = news[order[0]]
				}
			}
			if !slices.Equal(out, []api.Cell{want}) {
				t.Fatalf("order %v of %v: %v", order, start, out)
			}
		}
	}
}

// P2.5: adds leave the same in whatever order they come, also where sums go round.
func TestAddsInAnyOrder(t *testing.T) {
	start := []api.Cell{{Tag: 1, A: 2, B: 3, C: 4}, {A: all}}
	adds := []api.Access{{At: 0, New: api.Cell{A: 1}}, {At: 1, New: api.Cell{A: 3}}, {At: 0, New: api.Cell{A: all}},
		{At: 1, New: api.Cell{A: 1 << 63}}, {At: 0, New: api.Cell{A: 40, Tag: 7, B: 7, C: 7}}, {At: 1, New: api.Cell{A: 1 << 63}}}
	want := []api.Cell{{Tag: 1, A: 42, B: 3, C: 4}, {A: 2}}
	for _, order := range orders(len(adds)) {
		var todo []api.Access
		for _, n := range order {
			a := adds[n]
			a.Kind = api.AccAdd
			todo = append(todo, a)
		}
		if out, _, e := cell.Run(start, todo); !slices.Equal(out, want) || e != api.OK {
			t.Fatalf("order %v: %v, %d", order, out, e)
		}
	}
}

// P2.5: in a long run each access turns the cell at its place at most.
func TestOnlyItsPlaceTurns(t *testing.T) {
	m := memory(t, slices.Repeat(cells[:3], 3))
	for _, a := range plan(2000, 9) {
		was := m.Cells()
		m.Do(a)
		for i, now := range m.Cells() {
			if i != a.At && now != was[i] {
				t.Fatalf("%v turned the cell %d", a, i)
			}
		}
	}
}
