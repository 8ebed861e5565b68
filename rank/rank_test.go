package rank_test

import (
	"math"
	"slices"
	"testing"

	"bascule/api"
	"bascule/rank"
)

const lastNode = 127

var widths = []int{2, 3, 4}

// far are numbers that wrap round, or may be once they are cut short.
var far = []int{-1 << 32, -1<<32 + 1, -1<<32 + 3, 1 << 8, 1<<8 + 1, 1<<8 + 3, 1<<16 + 2, 1 << 32, 1<<32 + 1, 1<<32 + 3,
	math.MinInt, math.MinInt + 1, math.MinInt + 3, math.MaxInt, math.MaxInt - 1, math.MaxInt - 31}

// around has all numbers from a little below low to a little above high, and the far ones.
func around(low, high int) []int {
	l := slices.Clone(far)
	for n := low - 5; n <= high+5; n++ {
		l = append(l, n)
	}
	return l
}

// outside has those of around that are not from low to high.
func outside(low, high int) []int {
	return slices.DeleteFunc(around(low, high), func(n int) bool { return n >= low && n <= high })
}

// above goes up from a node to the root, step by step: slow, but by another way than the program's.
func above(n int) []int {
	l := []int{n}
	for n > 1 {
		n /= 2
		l = append(l, n)
	}
	return l
}

// groups are the items of a level, each with the places of the level below that it is for, put together one by one.
func groups(below, wide int) [][]int {
	var l [][]int
	for place := range below {
		if place%wide == 0 {
			l = append(l, nil)
		}
		l[len(l)-1] = append(l[len(l)-1], place)
	}
	return l
}

// heights has how many items each level has, from level 0 to level 4, also above the top.
func heights(many, wide int) []int {
	l := []int{many}
	for range api.MaxHigh {
		l = append(l, len(groups(l[len(l)-1], wide)))
	}
	return l
}

// P3.1 to P3.3: the chapter's examples.
func TestExamples(t *testing.T) {
	for _, c := range []struct {
		name string
		call func() (int, api.Errno)
		want int
	}{
		{"Node(3, 5)", func() (int, api.Errno) { return rank.Node(3, 5) }, 13},
		{"Depth(13)", func() (int, api.Errno) { return rank.Depth(13) }, 3},
		{"Over(13, 2)", func() (int, api.Errno) { return rank.Over(13, 2) }, 3},
		{"Count(7, 2, 2)", func() (int, api.Errno) { return rank.Count(7, 2, 2) }, 2},
		{"Count(0, 3, 1)", func() (int, api.Errno) { return rank.Count(0, 3, 1) }, 0},
		{"Last(7, 2, 1, 3)", func() (int, api.Errno) { return rank.Last(7, 2, 1, 3) }, 6},
		{"Last(7, 2, 1, 0)", func() (int, api.Errno) { return rank.Last(7, 2, 1, 0) }, 1},
	} {
		if n, e := c.call(); n != c.want || e != api.OK {
			t.Errorf("%s = %d, %d", c.name, n, e)
		}
	}
}

// P3.2: the chapter's examples, and the edges: one item, a row as long as the width, one more, and the longest rows.
func TestLevelsExamples(t *testing.T) {
	for _, c := range []struct {
		many, wide int
		want       []int
	}{
		{7, 2, []int{7, 4, 2}}, {4, 4, []int{4}}, {32, 2, []int{32, 16, 8, 4, 2}},
		{1, 2, []int{1}}, {1, 4, []int{1}}, {2, 2, []int{2}}, {3, 2, []int{3, 2}}, {3, 3, []int{3}}, {4, 3, []int{4, 2}},
		{5, 4, []int{5, 2}}, {9, 3, []int{9, 3}}, {10, 3, []int{10, 4, 2}}, {16, 4, []int{16, 4}}, {17, 4, []int{17, 5, 2}},
		{17, 2, []int{17, 9, 5, 3, 2}}, {32, 3, []int{32, 11, 4, 2}}, {32, 4, []int{32, 8, 2}}, {31, 2, []int{31, 16, 8, 4, 2}},
	} {
		if l, e := rank.Levels(c.many, c.wide); !slices.Equal(l, c.want) || e != api.OK {
			t.Errorf("Levels(%d, %d) = %v, %d", c.many, c.wide, l, e)
		}
	}
}

// P3.1: every prefix is a node of its depth, in order from 1 to 127, none twice.
func TestNodeAndDepthEverywhere(t *testing.T) {
	want := 1
	for l := range api.MaxBits + 1 {
		for p := range int(math.Pow(2, float64(l))) {
			if n, e := rank.Node(l, p); n != want || e != api.OK {
				t.Errorf("Node(%d, %d) = %d, %d", l, p, n, e)
			}
			if d, e := rank.Depth(want); d != l || e != api.OK {
				t.Errorf("Depth(%d) = %d, %d", want, d, e)
			}
			want++
		}
	}
	if want != lastNode+1 {
		t.Errorf("%d nodes", want-1)
	}
}

// P3.1: every node's way up, from itself to the root.
func TestOverEverywhere(t *testing.T) {
	for n := 1; n <= lastNode; n++ {
		for k, want := range above(n) {
			if got, e := rank.Over(n, k); got != want || e != api.OK {
				t.Errorf("Over(%d, %d) = %d, %d", n, k, got, e)
			}
		}
	}
}

// P3.1, P1: lengths, and numbers of prefixes, that may not be are ErrArg with a zero.
func TestNodeBad(t *testing.T) {
	for _, l := range outside(0, 6) {
		for _, p := range around(0, 64) {
			if n, e := rank.Node(l, p); n != 0 || e != api.ErrArg {
				t.Errorf("Node(%d, %d) = %d, %d", l, p, n, e)
			}
		}
	}
	for l, end := range []int{1, 2, 4, 8, 16, 32, 64} {
		for _, p := range outside(0, end-1) {
			if n, e := rank.Node(l, p); n != 0 || e != api.ErrArg {
				t.Errorf("Node(%d, %d) = %d, %d", l, p, n, e)
			}
		}
	}
}

// P3.1, P1: numbers of no node, and levels above the root or below the node, are ErrArg with a zero.
func TestDepthAndOverBad(t *testing.T) {
	for _, n := range outside(1, lastNode) {
		if d, e := rank.Depth(n); d != 0 || e != api.ErrArg {
			t.Errorf("Depth(%d) = %d, %d", n, d, e)
		}
		for _, k := range around(0, 6) {
			if got, e := rank.Over(n, k); got != 0 || e != api.ErrArg {
				t.Errorf("Over(%d, %d) = %d, %d", n, k, got, e)
			}
		}
	}
	for n := 1; n <= lastNode; n++ {
		for _, k := range append(outside(0, len(above(n))-1), 63, 64, 65) {
			if got, e := rank.Over(n, k); got != 0 || e != api.ErrArg {
				t.Errorf("Over(%d, %d) = %d, %d", n, k, got, e)
			}
		}
	}
}

// P3.2: every row's levels, held against items that are put together one by one; none is above the first that the width covers.
func TestLevelsEverywhere(t *testing.T) {
	for _, wide := range widths {
		for many := 1; many <= api.MaxCap; many++ {
			want := []int{many}
			for want[len(want)-1] > wide {
				want = append(want, len(groups(want[len(want)-1], wide)))
			}
			if l, e := rank.Levels(many, wide); !slices.Equal(l, want) || e != api.OK {
				t.Errorf("Levels(%d, %d) = %v, %d", many, wide, l, e)
			}
		}
	}
}

// P3.3: every level of every row, the empty one too, and also above the top.
func TestCountEverywhere(t *testing.T) {
	for _, wide := range widths {
		for many := 0; many <= api.MaxCap; many++ {
			for h, want := range heights(many, wide) {
				if n, e := rank.Count(many, wide, h); n != want || e != api.OK {
					t.Errorf("Count(%d, %d, %d) = %d, %d", many, wide, h, n, e)
				}
			}
		}
	}
}

// P3.3: every item of every level above a row, also above the top.
func TestLastEverywhere(t *testing.T) {
	for _, wide := range widths {
		for many := 1; many <= api.MaxCap; many++ {
			levels := heights(many, wide)
			for h := 1; h <= api.MaxHigh; h++ {
				for i, items := range groups(levels[h-1], wide) {
					if n, e := rank.Last(many, wide, h, i); n != items[len(items)-1] || e != api.OK {
						t.Errorf("Last(%d, %d, %d, %d) = %d, %d", many, wide, h, i, n, e)
					}
				}
			}
		}
	}
}

// checkBadRow asks all calls of a row, at every level and some items: all are ErrArg with nothing beside it.
func checkBadRow(t *testing.T, many, wide int) {
	t.Helper()
	if l, e := rank.Levels(many, wide); len(l) != 0 || e != api.ErrArg {
		t.Errorf("Levels(%d, %d) = %v, %d", many, wide, l, e)
	}
	for _, h := range around(0, api.MaxHigh) {
		if n, e := rank.Count(many, wide, h); n != 0 || e != api.ErrArg {
			t.Errorf("Count(%d, %d, %d) = %d, %d", many, wide, h, n, e)
		}
		for _, i := range []int{math.MinInt, -1, 0, 1, 31, math.MaxInt} {
			if n, e := rank.Last(many, wide, h, i); n != 0 || e != api.ErrArg {
				t.Errorf("Last(%d, %d, %d, %d) = %d, %d", many, wide, h, i, n, e)
			}
		}
	}
}

// P3.2, P3.3, P1: rows that are too long, or negative, and widths that may not be.
func TestBadRows(t *testing.T) {
	for _, many := range outside(0, api.MaxCap) {
		for _, wide := range around(2, 4) {
			checkBadRow(t, many, wide)
		}
	}
	for _, wide := range outside(2, 4) {
		for many := range api.MaxCap + 1 {
			checkBadRow(t, many, wide)
		}
	}
}

// P3.2, P3.3, P1: an empty row has counts, but neither levels nor last items.
func TestEmptyRow(t *testing.T) {
	for _, wide := range widths {
		if l, e := rank.Levels(0, wide); len(l) != 0 || e != api.ErrArg {
			t.Errorf("Levels(0, %d) = %v, %d", wide, l, e)
		}
		for h := range api.MaxHigh + 1 {
			if n, e := rank.Count(0, wide, h); n != 0 || e != api.OK {
				t.Errorf("Count(0, %d, %d) = %d, %d", wide, h, n, e)
			}
			for _, i := range around(0, 1) {
				if n, e := rank.Last(0, wide, h, i); n != 0 || e != api.ErrArg {
					t.Errorf("Last(0, %d, %d, %d) = %d, %d", wide, h, i, n, e)
				}
			}
		}
	}
}

// P3.3, P1: levels that may not be; level 0 has a count, but is for nothing below it.
func TestBadLevels(t *testing.T) {
	for _, wide := range widths {
		for many := range api.MaxCap + 1 {
			for _, h := range outside(0, api.MaxHigh) {
				if n, e := rank.Count(many, wide, h); n != 0 || e != api.ErrArg {
					t.Errorf("Count(%d, %d, %d) = %d, %d", many, wide, h, n, e)
				}
			}
			for _, h := range outside(1, api.MaxHigh) {
				for _, i := range around(0, many) {
					if n, e := rank.Last(many, wide, h, i); n != 0 || e != api.ErrArg {
						t.Errorf("Last(%d, %d, %d, %d) = %d, %d", many, wide, h, i, n, e)
					}
				}
			}
		}
	}
}

// P3.3, P1: items that a level has not, also such as the level below has, or whose places would wrap round.
func TestBadItems(t *testing.T) {
	for _, wide := range widths {
		for many := 1; many <= api.MaxCap; many++ {
			levels := heights(many, wide)
			for h := 1; h <= api.MaxHigh; h++ {
				for _, i := range append(outside(0, levels[h]-1), levels[h-1]+1, math.MaxInt/wide, math.MaxInt/wide+1, math.MinInt/wide) {
					if n, e := rank.Last(many, wide, h, i); n != 0 || e != api.ErrArg {
						t.Errorf("Last(%d, %d, %d, %d) = %d, %d", many, wide, h, i, n, e)
					}
				}
			}
		}
	}
}

// P3.4: what is above a node's is what is above both together, up to the root and not beyond.
func TestOverAddsUp(t *testing.T) {
	for n := 1; n <= lastNode; n++ {
		depth := len(above(n)) - 1
		for j := range depth + 1 {
			mid, _ := rank.Over(n, j)
			if d, e := rank.Depth(mid); d != depth-j || e != api.OK {
				t.Errorf("Depth(Over(%d, %d)) = %d, %d", n, j, d, e)
			}
			for k := range depth + 2 {
				got, gotErr := rank.Over(mid, k)
				want, wantErr := rank.Over(n, j+k)
				if got != want || gotErr != wantErr {
					t.Errorf("Over(Over(%d, %d), %d) = %d, %d, but Over(%d, %d) = %d, %d", n, j, k, got, gotErr, n, j+k, want, wantErr)
				}
			}
		}
	}
}

// P3.4: Last rises from item to item, by the width but for the end, and ends at the last item of the level below.
func TestLastRisesToTheEnd(t *testing.T) {
	for _, wide := range widths {
		for many := 1; many <= api.MaxCap; many++ {
			for h := 1; h <= api.MaxHigh; h++ {
				items, _ := rank.Count(many, wide, h)
				below, _ := rank.Count(many, wide, h-1)
				was := -1
				for i := range items {
					n, e := rank.Last(many, wide, h, i)
					if n <= was || n > was+wide || e != api.OK {
						t.Errorf("Last(%d, %d, %d, %d) = %d, %d behind %d", many, wide, h, i, n, e, was)
					}
					was = n
				}
				if was != below-1 {
					t.Errorf("Last(%d, %d, %d, ..) ends at %d of %d items", many, wide, h, was, below)
				}
			}
		}
	}
}

// P3.4: no row has more than MaxHigh levels above it, some has as many, and Levels is what Count says, level by level.
func TestLevelsAreFewEnough(t *testing.T) {
	highest := 0
	for _, wide := range widths {
		for many := 1; many <= api.MaxCap; many++ {
			l, e := rank.Levels(many, wide)
			if len(l) < 1 || len(l)-1 > api.MaxHigh || e != api.OK {
				t.Fatalf("Levels(%d, %d) = %v, %d", many, wide, l, e)
			}
			highest = max(highest, len(l)-1)
			for h, items := range l {
				if n, e := rank.Count(many, wide, h); n != items || e != api.OK {
					t.Errorf("Count(%d, %d, %d) = %d, %d, but Levels has %d", many, wide, h, n, e, items)
				}
				if top := h == len(l)-1; top != (items <= wide) {
					t.Errorf("Levels(%d, %d) = %v: the top is not the first that the width covers", many, wide, l)
				}
			}
		}
	}
	if highest != api.MaxHigh {
		t.Errorf("the highest row has %d levels above it", highest)
	}
}

// Rules of DOC.md: what Levels answers is new memory each time, and turning it turns no answer behind it.
func TestLevelsAnswersNewMemory(t *testing.T) {
	first, _ := rank.Levels(32, 2)
	second, _ := rank.Levels(32, 2)
	for i := range first {
		first[i] = -1
	}
	_ = append(first[:1], -2, -2)
	third, _ := rank.Levels(32, 2)
	want := []int{32, 16, 8, 4, 2}
	if !slices.Equal(second, want) || !slices.Equal(third, want) {
		t.Error(second, third)
	}
}
