package part_test

import (
	"math"
	"slices"
	"testing"

	"bascule/api"
	"bascule/part"
)

// example is the chapter's first one; indexed its second one.
var (
	example = api.Config{Object: api.ObjAccess, Instances: 2, Threads: 3, Kind: api.KindSlots, Cap: 4, Batch: 2, Limit: 131072}
	indexed = api.Config{Object: api.ObjIndex, Instances: 2, Threads: 3, Kind: api.KindStripes, Stripes: 2, Cap: 7, Node: 2,
		Chunk: 1, Batch: 2, Limit: 131072, Most: 9}
)

// ofObject has a config of each object, all else alike.
func ofObject(c api.Config) []api.Config {
	c.Bits, c.Node, c.Chunk = 0, 0, 0
	route, index, access, settings := c, c, c, c
	route.Object, route.Bits = api.ObjRoute, 3
	index.Object, index.Node, index.Chunk = api.ObjIndex, 3, 2
	access.Object = api.ObjAccess
	settings.Object = api.ObjConfig
	return []api.Config{route, index, access, settings}
}

// bases has a config of each object and each kind of indicators.
func bases() []api.Config {
	slots := api.Config{Instances: 3, Threads: 4, Kind: api.KindSlots, Cap: 5, Batch: 6, Limit: 1 << 20}
	stripes := slots
	stripes.Kind, stripes.Stripes, stripes.Most = api.KindStripes, 2, 7
	return append(ofObject(slots), ofObject(stripes)...)
}

// shapes has configs of all objects and sizes, with the numbers of instances and threads, and the indicators, at both ends and between.
func shapes() []api.Config {
	var l []api.Config
	for _, c := range bases() {
		for _, c.Instances = range []int{2, 3, 4} {
			for _, c.Threads = range []int{1, 2, 5, 16} {
				for _, c.Stripes = range stripesOf(c) {
					l = append(l, sizes(c)...)
				}
			}
		}
	}
	return l
}

func stripesOf(c api.Config) []int {
	if c.Kind == api.KindSlots {
		return []int{0}
	}
	return []int{1, 3, 4}
}

func sizes(c api.Config) []api.Config {
	var l []api.Config
	for _, c.Cap = range []int{1, 2, 3, 4, 5, 8, 9, 16, 17, 27, 28, 31, 32} {
		switch c.Object {
		case api.ObjRoute:
			for c.Bits = 1; c.Bits <= 6; c.Bits++ {
				l = append(l, c)
			}
		case api.ObjIndex:
			for c.Node = 2; c.Node <= 4; c.Node++ {
				l = append(l, c)
			}
		default:
			l = append(l, c)
		}
	}
	return l
}

// sizeBy says by the chapter's words how many cells an instance has: nodes and items are counted one by one, by another way than the program's.
func sizeBy(c api.Config) int {
	switch c.Object {
	case api.ObjRoute:
		n := 2
		for range c.Bits {
			n *= 2
		}
		return n
	case api.ObjIndex:
		n := 1 + c.Cap
		for items := c.Cap; items > c.Node; {
			above := 0
			for range slices.Chunk(make([]int, items), c.Node) {
				above++
			}
			n += above
			items = above
		}
		return n
	}
	return c.Cap
}

// memoryBy lists a memory's places by the chapter's table, one by one.
func memoryBy(c api.Config) []api.Place {
	l := []api.Place{{Part: api.PartVersion}, {Part: api.PartLeft}, {Part: api.PartControl}}
	for t := range c.Threads {
		l = append(l, api.Place{Part: api.PartSlot, A: t})
	}
	for t := range c.Threads {
		l = append(l, api.Place{Part: api.PartResult, A: t})
	}
	grid := func(part uint8, as, bs int) {
		for a := range as {
			for b := range bs {
				l = append(l, api.Place{Part: part, A: a, B: b})
			}
		}
	}
	if c.Kind == api.KindSlots {
		grid(api.PartMark, 2, c.Threads)
	} else {
		grid(api.PartIn, 2, c.Stripes)
		grid(api.PartOut, 2, c.Stripes)
	}
	for i := range c.Instances {
		l = append(l, api.Place{Part: api.PartDesc, A: i})
		for offset := range sizeBy(c) {
			l = append(l, api.Place{Part: api.PartObject, A: i, B: offset})
		}
	}
	return l
}

// far are numbers that wrap round, or that may be once they are cut short.
var far = []int{-1 << 32, -1<<32 + 1, 1 << 8, 1<<8 + 1, 1<<8 + 2, 1<<16 + 1, 1 << 32, 1<<32 + 1, 1<<32 + 2, 1<<32 + 3,
	math.MinInt, math.MinInt + 1, math.MinInt + 2, math.MaxInt, math.MaxInt - 1}

// badPlaces has the places around all that the memory has, in every part and in numbers of no part, but for those that it has.
func badPlaces(c api.Config) []api.Place {
	has := map[api.Place]int{}
	for at, p := range memoryBy(c) {
		has[p] = at
	}
	var l []api.Place
	for number := range 256 {
		numbers := []int{-2, -1, 0, 1, 2, 3, 4, 5, c.Instances, c.Threads, c.Threads + 1, c.Stripes, sizeBy(c) - 1, sizeBy(c), sizeBy(c) + 1}
		if number < 12 {
			numbers = append(numbers, far...)
		}
		for _, a := range numbers {
			for _, b := range numbers {
				p := api.Place{Part: uint8(number), A: a, B: b}
				if _, ok := has[p]; !ok {
					l = append(l, p)
				}
			}
		}
	}
	return l
}

// P4.1, P4.2: the chapter's examples.
func TestExamples(t *testing.T) {
	checkExample(t, example, 4, 25, map[int]api.Place{2: {Part: api.PartControl}, 4: {Part: api.PartSlot, A: 1},
		12: {Part: api.PartMark, A: 1}, 20: {Part: api.PartDesc, A: 1}, 24: {Part: api.PartObject, A: 1, B: 3}})
	checkExample(t, indexed, 14, 17+2*15, map[int]api.Place{14: {Part: api.PartOut, B: 1}})
	l, e := part.Fresh(example)
	if len(l) != 25 || l[2] != (api.Cell{Tag: 7}) || e != api.OK {
		t.Error(l, e)
	}
}

func checkExample(t *testing.T, c api.Config, size, cells int, places map[int]api.Place) {
	t.Helper()
	if e := part.Check(c); e != api.OK {
		t.Errorf("Check = %d", e)
	}
	if n, e := part.Size(c); n != size || e != api.OK {
		t.Errorf("Size = %d, %d", n, e)
	}
	if n, e := part.Cells(c); n != cells || e != api.OK {
		t.Errorf("Cells = %d, %d", n, e)
	}
	for at, p := range places {
		if n, e := part.At(c, p); n != at || e != api.OK {
			t.Errorf("At(%v) = %d, %d", p, n, e)
		}
		if q, e := part.What(c, at); q != p || e != api.OK {
			t.Errorf("What(%d) = %v, %d", at, q, e)
		}
	}
}

// P4.1: sizes worked out by hand, at the least and the greatest of each object.
func TestSizeEdges(t *testing.T) {
	for _, c := range []struct {
		object          uint8
		bits, cap, node int
		want            int
	}{
		{api.ObjRoute, 1, 32, 0, 4}, {api.ObjRoute, 1, 1, 0, 4}, {api.ObjRoute, 6, 1, 0, 128}, {api.ObjRoute, 6, 32, 0, 128},
		{api.ObjIndex, 0, 1, 2, 2}, {api.ObjIndex, 0, 2, 2, 3}, {api.ObjIndex, 0, 3, 2, 6}, {api.ObjIndex, 0, 3, 3, 4},
		{api.ObjIndex, 0, 4, 4, 5}, {api.ObjIndex, 0, 5, 4, 8}, {api.ObjIndex, 0, 32, 2, 63}, {api.ObjIndex, 0, 32, 3, 50},
		{api.ObjIndex, 0, 32, 4, 43}, {api.ObjAccess, 0, 1, 0, 1}, {api.ObjAccess, 0, 32, 0, 32}, {api.ObjConfig, 0, 1, 0, 1},
		{api.ObjConfig, 0, 32, 0, 32},
	} {
		f := example
		f.Object, f.Bits, f.Cap, f.Node = c.object, c.bits, c.cap, c.node
		if c.object == api.ObjIndex {
			f.Chunk = 1
		}
		if n, e := part.Size(f); n != c.want || e != api.OK {
			t.Errorf("Size(%+v) = %d, %d, not %d", f, n, e, c.want)
		}
	}
}

// turn is a field of a config, with all numbers around those that it may have.
type turn struct {
	name string
	put  func(c *api.Config, n int)
	may  func(c api.Config, n int) bool
}

func from(low, high int) func(api.Config, int) bool {
	return func(_ api.Config, n int) bool { return n >= low && n <= high }
}

// only asks for a nought where the field has nothing to say.
func only(says func(api.Config) bool, low, high int) func(api.Config, int) bool {
	return func(c api.Config, n int) bool {
		if !says(c) {
			return n == 0
		}
		return n >= low && n <= high
	}
}

func isRoute(c api.Config) bool   { return c.Object == api.ObjRoute }
func isIndex(c api.Config) bool   { return c.Object == api.ObjIndex }
func isStripes(c api.Config) bool { return c.Kind == api.KindStripes }

func turns() []turn {
	return []turn{
		{"Instances", func(c *api.Config, n int) { c.Instances = n }, from(2, 4)},
		{"Threads", func(c *api.Config, n int) { c.Threads = n }, from(1, 16)},
		{"Stripes", func(c *api.Config, n int) { c.Stripes = n }, only(isStripes, 1, 4)},
		{"Bits", func(c *api.Config, n int) { c.Bits = n }, only(isRoute, 1, 6)},
		{"Cap", func(c *api.Config, n int) { c.Cap = n }, from(1, 32)},
		{"Node", func(c *api.Config, n int) { c.Node = n }, only(isIndex, 2, 4)},
		{"Batch", func(c *api.Config, n int) { c.Batch = n }, from(1, 16)},
		{"Chunk", func(c *api.Config, n int) { c.Chunk = n }, only(isIndex, 1, 8)},
	}
}

// P4.1: each field's numbers, from well below those that may be to well above them, in a config that may be else.
func TestCheckEveryField(t *testing.T) {
	numbers := slices.Clone(far)
	for n := -40; n <= 80; n++ {
		numbers = append(numbers, n)
	}
	for _, base := range bases() {
		checkCode(t, base, true)
		for _, f := range turns() {
			for _, n := range numbers {
				c := base
				f.put(&c, n)
				checkCode(t, c, f.may(base, n))
			}
		}
	}
}

// P4.1: the limits of tags and of counts, at both ends and beside them.
func TestCheckLimitAndMost(t *testing.T) {
	for _, base := range bases() {
		for _, n := range []uint64{0, 1, 2, 65535, 65536, 65537, 131071, 131072, 131073, 1 << 31, 1 << 32, 1<<62 - 1, 1 << 62, 1<<62 + 1,
			1 << 63, 1<<63 + 131072, math.MaxUint64 - 1, math.MaxUint64} {
			c := base
			c.Limit = n
			checkCode(t, c, n >= 131072 && n <= 1<<62)
			c = base
			c.Most = n
			if isStripes(base) {
				checkCode(t, c, n >= 1 && n <= 1<<62)
			} else {
				checkCode(t, c, n == 0)
			}
		}
	}
}

// P4.1: numbers of no object, and of no kind; and numbers of others, where the fields are not theirs.
func TestCheckObjectAndKind(t *testing.T) {
	for _, base := range bases() {
		for number := range 256 {
			c := base
			c.Object = uint8(number)
			alike := !isRoute(base) && !isIndex(base) && (number == int(api.ObjAccess) || number == int(api.ObjConfig))
			checkCode(t, c, number == int(base.Object) || alike)
			c = base
			c.Kind = uint8(number)
			checkCode(t, c, number == int(base.Kind))
		}
	}
	checkCode(t, api.Config{}, false)
}

// checkCode asks Check, and all calls below it if c may not be: they tell ErrConf and nothing else, whatever beside is wrong or right.
func checkCode(t *testing.T, c api.Config, may bool) {
	t.Helper()
	want := api.ErrConf
	if may {
		want = api.OK
	}
	if e := part.Check(c); e != want {
		t.Errorf("Check(%+v) = %d, not %d", c, e, want)
	}
	if may {
		return
	}
	if n, e := part.Size(c); n != 0 || e != api.ErrConf {
		t.Errorf("Size(%+v) = %d, %d", c, n, e)
	}
	if n, e := part.Cells(c); n != 0 || e != api.ErrConf {
		t.Errorf("Cells(%+v) = %d, %d", c, n, e)
	}
	if l, e := part.Fresh(c); l != nil || e != api.ErrConf {
		t.Errorf("Fresh(%+v) = %v, %d", c, l, e)
	}
	for _, p := range []api.Place{{}, {Part: api.PartVersion}, {Part: api.PartControl}, {Part: api.PartObject}, {Part: 99, A: -1, B: math.MaxInt}} {
		if n, e := part.At(c, p); n != 0 || e != api.ErrConf {
			t.Errorf("At(%+v, %v) = %d, %d", c, p, n, e)
		}
	}
	for _, at := range []int{math.MinInt, -1, 0, 2, 24, math.MaxInt} {
		if p, e := part.What(c, at); p != (api.Place{}) || e != api.ErrConf {
			t.Errorf("What(%+v, %d) = %v, %d", c, at, p, e)
		}
	}
}

// P4.1, P4.2, P4.4: every place of many memories, held against a list that is made by the chapter's table; so each place is one cell's, and each cell one place's.
func TestEveryPlace(t *testing.T) {
	for _, c := range shapes() {
		want := memoryBy(c)
		if n, e := part.Size(c); n != sizeBy(c) || e != api.OK {
			t.Fatalf("Size(%+v) = %d, %d", c, n, e)
		}
		if n, e := part.Cells(c); n != len(want) || e != api.OK {
			t.Fatalf("Cells(%+v) = %d, %d, not %d", c, n, e, len(want))
		}
		for at, p := range want {
			if n, e := part.At(c, p); n != at || e != api.OK {
				t.Fatalf("At(%+v, %v) = %d, %d, not %d", c, p, n, e, at)
			}
			if q, e := part.What(c, at); q != p || e != api.OK {
				t.Fatalf("What(%+v, %d) = %v, %d, not %v", c, at, q, e, p)
			}
		}
	}
}

// P4.2, P1: places that the memory has not: of other kinds of indicators, with numbers that their part does not name, beyond its ends, and far off.
func TestBadPlaces(t *testing.T) {
	l := append(bases(), example, indexed)
	for _, c := range l {
		for _, p := range badPlaces(c) {
			if n, e := part.At(c, p); n != 0 || e != api.ErrArg {
				t.Errorf("At(%+v, %v) = %d, %d", c, p, n, e)
			}
		}
	}
}

// P4.2: the chapter's edges by hand: the last place of each part may be, and the one behind it may not.
func TestLastPlaces(t *testing.T) {
	for _, c := range []struct {
		config    api.Config
		last, bad api.Place
		at        int
	}{
		{example, api.Place{Part: api.PartSlot, A: 2}, api.Place{Part: api.PartSlot, A: 3}, 5},
		{example, api.Place{Part: api.PartResult, A: 2}, api.Place{Part: api.PartResult, A: 3}, 8},
		{example, api.Place{Part: api.PartMark, A: 1, B: 2}, api.Place{Part: api.PartMark, B: 3}, 14},
		{example, api.Place{Part: api.PartObject, B: 3}, api.Place{Part: api.PartObject, B: 4}, 19},
		{example, api.Place{Part: api.PartDesc, A: 1}, api.Place{Part: api.PartDesc, A: 1, B: 1}, 20},
		{example, api.Place{Part: api.PartObject, A: 1, B: 3}, api.Place{Part: api.PartObject, A: 2}, 24},
		{example, api.Place{Part: api.PartVersion}, api.Place{Part: api.PartVersion, A: 1}, 0},
		{example, api.Place{Part: api.PartLeft}, api.Place{Part: api.PartLeft, B: 1}, 1},
		{example, api.Place{Part: api.PartSlot}, api.Place{Part: api.PartIn}, 3},
		{indexed, api.Place{Part: api.PartIn, A: 1, B: 1}, api.Place{Part: api.PartIn, A: 2}, 12},
		{indexed, api.Place{Part: api.PartOut, A: 1, B: 1}, api.Place{Part: api.PartOut, B: 2}, 16},
		{indexed, api.Place{Part: api.PartDesc}, api.Place{Part: api.PartMark}, 17},
		{indexed, api.Place{Part: api.PartObject, A: 1, B: 13}, api.Place{Part: api.PartObject, A: 1, B: 14}, 46},
	} {
		if n, e := part.At(c.config, c.last); n != c.at || e != api.OK {
			t.Errorf("At(%v) = %d, %d, not %d", c.last, n, e, c.at)
		}
		if n, e := part.At(c.config, c.bad); n != 0 || e != api.ErrArg {
			t.Errorf("At(%v) = %d, %d", c.bad, n, e)
		}
	}
}

// P4.2, P1: numbers of no cell.
func TestBadCells(t *testing.T) {
	for _, c := range append(bases(), example, indexed) {
		cells := len(memoryBy(c))
		for _, at := range append([]int{-cells, -2, -1, cells, cells + 1, 2 * cells, api.MaxCells, api.MaxCells + 1}, far...) {
			if at >= 0 && at < cells {
				continue
			}
			if p, e := part.What(c, at); p != (api.Place{}) || e != api.ErrArg {
				t.Errorf("What(%+v, %d) = %v, %d", c, at, p, e)
			}
		}
	}
}

// P4.1: noughts everywhere but in the control, whose Tag is the rest.
func TestFresh(t *testing.T) {
	for _, c := range shapes() {
		want := make([]api.Cell, len(memoryBy(c)))
		want[2].Tag = []uint64{2: 7, 3: 8, 4: 9}[c.Instances]
		if l, e := part.Fresh(c); !slices.Equal(l, want) || e != api.OK {
			t.Fatalf("Fresh(%+v) = %v, %d", c, l, e)
		}
	}
}

// P4.3: a fresh memory is new each time: turning one turns no other.
func TestFreshIsNew(t *testing.T) {
	first, _ := part.Fresh(example)
	second, _ := part.Fresh(example)
	for i := range first {
		first[i] = api.Cell{Tag: 1, A: 2, B: 3, C: 4}
	}
	_ = append(first[:1], first[0])
	third, _ := part.Fresh(example)
	want := make([]api.Cell, 25)
	want[2].Tag = 7
	if !slices.Equal(second, want) || !slices.Equal(third, want) {
		t.Error(second, third)
	}
}

// P4.4: the greatest memory of each object and kind has MaxCells cells at most.
func TestGreatestMemories(t *testing.T) {
	greatest := map[uint8]int{api.ObjRoute: 128, api.ObjIndex: 63, api.ObjAccess: 32, api.ObjConfig: 32}
	for _, c := range bases() {
		c.Instances, c.Threads, c.Cap, c.Batch, c.Limit = 4, 16, 32, 16, 1<<62
		indicators := 2 * 16
		if isStripes(c) {
			c.Stripes, c.Most = 4, 1<<62
			indicators = 2 * 2 * 4
		}
		if isRoute(c) {
			c.Bits = 6
		}
		if isIndex(c) {
			c.Node, c.Chunk = 2, 8
		}
		want := 3 + 16 + 16 + indicators + 4*(1+greatest[c.Object])
		if n, e := part.Cells(c); n != want || n > 1024 || e != api.OK {
			t.Errorf("Cells(%+v) = %d, %d, not %d", c, n, e, want)
		}
	}
}
