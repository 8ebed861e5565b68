package op_test

import (
	"math"
	"slices"
	"testing"

	"bascule/api"
	"bascule/op"
)

// example is the chapter's config.
var example = api.Config{Object: api.ObjRoute, Instances: 2, Threads: 1, Kind: api.KindSlots, Bits: 3, Cap: 4, Batch: 1, Limit: 131072}

func ofObject(object uint8) api.Config {
	c := example
	c.Object, c.Bits = object, 0
	switch object {
	case api.ObjRoute:
		c.Bits = 3
	case api.ObjIndex:
		c.Node, c.Chunk = 2, 1
	}
	return c
}

var allObjects = []uint8{api.ObjRoute, api.ObjIndex, api.ObjAccess, api.ObjConfig}

// kind is a line of the chapter's table, with a question for each triple of numbers.
type kind struct {
	name   string
	kind   uint8
	object uint8
	writes bool
	fits   func(bits int, a, b, c uint64) bool
}

const (
	maxValue = 2147483647
	maxWho   = 65535
)

// prefixes, values and so on ask by the chapter's words, of numbers so wide that nothing wraps round.
func prefixBy(bits int, number, length uint64) bool {
	if length > uint64(bits) {
		return false
	}
	return number < uint64(math.Pow(2, float64(length)))
}

// pathBy puts A together out of names: a way back that the program does not go.
func pathBy(a, b uint64) bool {
	second := a >> 16
	first := a - 65536*second
	if first < 1 || first > maxWho || second > maxWho || b > maxWho {
		return false
	}
	return second >= 1 || b == 0
}

// kinds is the chapter's table.
func kinds() []kind {
	update := func(bits int, a, b, c uint64) bool { return prefixBy(bits, a, b) && c <= maxValue }
	key := func(_ int, a, b, c uint64) bool { return a <= maxValue && b == 0 && c == 0 }
	two := func(_ int, a, b, c uint64) bool { return a <= maxValue && b <= maxValue && c == 0 }
	return []kind{
		{"OpInsert", 1, 1, true, update},
		{"OpRemove", 2, 1, true, func(bits int, a, b, c uint64) bool { return update(bits, a, b, c) && c == 0 }},
		{"OpLookup", 3, 1, false, func(bits int, a, b, c uint64) bool { return prefixBy(bits, a, uint64(bits)) && b == 0 && c == 0 }},
		{"OpPut", 4, 2, true, two},
		{"OpDelete", 5, 2, true, key},
		{"OpGet", 6, 2, false, key},
		{"OpFloor", 7, 2, false, key},
		{"OpScan", 8, 2, false, two},
		{"OpAdd", 9, 3, true, func(_ int, a, b, c uint64) bool { return a <= maxWho && b <= maxWho && (c == 1 || c == 2) }},
		{"OpDrop", 10, 3, true, func(_ int, a, b, c uint64) bool { return a <= maxWho && b <= maxWho && c == 0 }},
		{"OpCheck", 11, 3, false, func(_ int, a, b, c uint64) bool {
			return a >= 1 && a <= maxWho && b >= 1 && b <= maxWho && c == 0
		}},
		{"OpSet", 12, 4, true, func(_ int, a, b, c uint64) bool { return pathBy(a, b) && c <= maxValue }},
		{"OpUnset", 13, 4, true, func(_ int, a, b, c uint64) bool { return pathBy(a, b) && c == 0 }},
		{"OpRead", 14, 4, false, func(_ int, a, b, c uint64) bool { return pathBy(a, b) && c == 0 }},
	}
}

// numbers stand at and around all edges that the table names, and where a number cut short would be another one.
func numbers() []uint32 {
	return []uint32{0, 1, 2, 3, 4, 5, 6, 7, 8, 9, 15, 16, 31, 32, 33, 63, 64, 65, 127, 255, 256, 257, 32767, 32768,
		65534, 65535, 65536, 65537, 65538, 131071, 131072, 131073, 7<<16 | 5, 7 << 16, 65535 << 16, 65535<<16 | 1, 1<<24 + 1,
		1<<31 - 2, 1<<31 - 1, 1 << 31, 1<<31 + 1, 1<<31 + 65536, math.MaxUint32 - 1, math.MaxUint32}
}

// P5.1: the chapter's examples.
func TestExamples(t *testing.T) {
	for _, x := range []struct {
		o    api.Op
		want api.Errno
	}{
		{api.Op{Kind: api.OpInsert, A: 5, B: 3, C: 7}, api.OK},
		{api.Op{Kind: api.OpInsert, A: 5, B: 2, C: 7}, api.ErrOver},
		{api.Op{Kind: api.OpLookup, A: 8}, api.ErrOver},
		{api.Op{Kind: api.OpGet, A: 1}, api.ErrOp},
	} {
		if e := op.Check(example, x.o); e != x.want {
			t.Errorf("Check(%v) = %d, not %d", x.o, e, x.want)
		}
	}
	if l := op.Laid(9, api.Op{Kind: api.OpInsert, A: 5, B: 3, C: 7}); l != (api.Cell{Tag: 9, A: 1281, B: 3, C: 7}) {
		t.Error(l)
	}
}

// P5.1, P5.4: every number of a kind is one object's, and writes or not, as the table says; all others are nobody's, and do not write.
func TestObjectAndWritesOfEveryKind(t *testing.T) {
	table := map[uint8]kind{}
	for _, k := range kinds() {
		table[k.kind] = k
	}
	for number := range 256 {
		k := table[uint8(number)]
		if got := op.Object(uint8(number)); got != k.object {
			t.Errorf("Object(%d) = %d, not %d", number, got, k.object)
		}
		if got := op.Writes(uint8(number)); got != k.writes {
			t.Errorf("Writes(%d) = %v", number, got)
		}
	}
}

// P5.1, P5.4: each kind with numbers that fit is an operation of its own object's config alone.
func TestCheckOtherObjects(t *testing.T) {
	fitting := map[uint8]api.Op{
		api.OpInsert: {A: 1, B: 1, C: 1}, api.OpRemove: {A: 1, B: 1}, api.OpLookup: {A: 1}, api.OpPut: {A: 1, B: 1}, api.OpDelete: {A: 1},
		api.OpGet: {A: 1}, api.OpFloor: {A: 1}, api.OpScan: {A: 1, B: 1}, api.OpAdd: {A: 1, B: 1, C: 1}, api.OpDrop: {A: 1, B: 1},
		api.OpCheck: {A: 1, B: 1}, api.OpSet: {A: 65537, B: 1, C: 1}, api.OpUnset: {A: 1}, api.OpRead: {A: 1},
	}
	for number := range 256 {
		o := fitting[uint8(number)]
		o.Kind = uint8(number)
		for _, object := range allObjects {
			want := api.ErrOp
			if object == op.Object(o.Kind) {
				want = api.OK
			}
			if e := op.Check(ofObject(object), o); e != want {
				t.Errorf("Check of the object %d of %v = %d, not %d", object, o, e, want)
			}
		}
	}
}

// P5.1: ErrOp is told ahead of ErrOver: of another object's operation no number is asked.
func TestCheckTellsErrOpFirst(t *testing.T) {
	for number := range 256 {
		for _, object := range allObjects {
			if object == op.Object(uint8(number)) {
				continue
			}
			for _, o := range []api.Op{{}, {A: 1}, {A: math.MaxUint32, B: math.MaxUint32, C: math.MaxUint32}, {C: math.MaxUint32}} {
				o.Kind = uint8(number)
				if e := op.Check(ofObject(object), o); e != api.ErrOp {
					t.Errorf("Check of the object %d of %v = %d", object, o, e)
				}
			}
		}
	}
}

// badConfigs miss what may be by one field each, and all of it at once.
func badConfigs() []api.Config {
	l := []api.Config{{}, {Bits: -1}, {Object: api.ObjRoute, Bits: math.MinInt}}
	for _, object := range allObjects {
		for _, put := range []func(c *api.Config){
			func(c *api.Config) { c.Object = 0 },
			func(c *api.Config) { c.Object = 5 },
			func(c *api.Config) { c.Instances = 1 },
			func(c *api.Config) { c.Threads = 17 },
			func(c *api.Config) { c.Kind = 3 },
			func(c *api.Config) { c.Stripes = 1 },
			func(c *api.Config) { c.Bits = 7 },
			func(c *api.Config) { c.Bits = -1 },
			func(c *api.Config) { c.Bits = math.MaxInt },
			func(c *api.Config) { c.Cap = 0 },
			func(c *api.Config) { c.Node = 5 },
			func(c *api.Config) { c.Batch = 0 },
			func(c *api.Config) { c.Chunk = 9 },
			func(c *api.Config) { c.Limit = 131071 },
			func(c *api.Config) { c.Most = 1 },
		} {
			c := ofObject(object)
			put(&c)
			l = append(l, c)
		}
	}
	return l
}

// P5.1, P1: ErrConf is told ahead of all else, whatever the operation is.
func TestCheckTellsErrConfFirst(t *testing.T) {
	for _, c := range badConfigs() {
		for number := range 256 {
			for _, o := range []api.Op{{}, {A: 1, B: 1, C: 1}, {A: 1}, {A: math.MaxUint32, B: math.MaxUint32, C: math.MaxUint32}} {
				o.Kind = uint8(number)
				if e := op.Check(c, o); e != api.ErrConf {
					t.Fatalf("Check(%+v, %v) = %d", c, o, e)
				}
			}
		}
	}
}

// P5.1: all kinds, with every three numbers of those around the edges, held against the chapter's table.
func TestCheckEveryKindAroundEdges(t *testing.T) {
	for _, k := range kinds() {
		c := ofObject(k.object)
		for _, x := range numbers() {
			for _, y := range numbers() {
				for _, z := range numbers() {
					checkFits(t, c, k, api.Op{Kind: k.kind, A: x, B: y, C: z})
				}
			}
		}
	}
}

func checkFits(t *testing.T, c api.Config, k kind, o api.Op) {
	t.Helper()
	want := api.ErrOver
	if k.fits(c.Bits, uint64(o.A), uint64(o.B), uint64(o.C)) {
		want = api.OK
	}
	if e := op.Check(c, o); e != want {
		t.Errorf("Check of %s %v, %d bits = %d, not %d", k.name, o, c.Bits, e, want)
	}
}

// P5.1: of keys of each number of bits, all prefixes and keys up to behind the greatest one, and lengths that would shift a number out of its word.
func TestCheckEveryPrefix(t *testing.T) {
	for bits := 1; bits <= 6; bits++ {
		c := ofObject(api.ObjRoute)
		c.Bits = bits
		for _, k := range kinds()[:3] {
			for _, length := range []uint32{0, 1, 2, 3, 4, 5, 6, 7, 8, 31, 32, 33, 63, 64, 65, 256, 1 << 16, 1<<31 + 1, math.MaxUint32} {
				for number := range uint32(131) {
					checkFits(t, c, k, api.Op{Kind: k.kind, A: number, B: length})
				}
			}
		}
	}
}

// P5.1: the edges that the table names, by hand.
func TestCheckEdges(t *testing.T) {
	const over = api.ErrOver
	for _, x := range []struct {
		o    api.Op
		want api.Errno
	}{
		{api.Op{Kind: api.OpInsert}, api.OK},
		{api.Op{Kind: api.OpInsert, A: 1}, over},
		{api.Op{Kind: api.OpInsert, A: 7, B: 3, C: maxValue}, api.OK},
		{api.Op{Kind: api.OpInsert, A: 7, B: 3, C: maxValue + 1}, over},
		{api.Op{Kind: api.OpInsert, A: 8, B: 3}, over},
		{api.Op{Kind: api.OpInsert, A: 0, B: 4}, over},
		{api.Op{Kind: api.OpRemove, A: 7, B: 3}, api.OK},
		{api.Op{Kind: api.OpRemove, A: 7, B: 3, C: 1}, over},
		{api.Op{Kind: api.OpLookup, A: 7}, api.OK},
		{api.Op{Kind: api.OpLookup, A: 7, B: 1}, over},
		{api.Op{Kind: api.OpLookup, A: 7, C: 1}, over},
		{api.Op{Kind: api.OpPut, A: maxValue, B: maxValue}, api.OK},
		{api.Op{Kind: api.OpPut, A: maxValue + 1}, over},
		{api.Op{Kind: api.OpPut, B: maxValue + 1}, over},
		{api.Op{Kind: api.OpPut, C: 1}, over},
		{api.Op{Kind: api.OpDelete, A: maxValue}, api.OK},
		{api.Op{Kind: api.OpDelete, B: 1}, over},
		{api.Op{Kind: api.OpGet, A: maxValue + 1}, over},
		{api.Op{Kind: api.OpFloor, C: 1}, over},
		{api.Op{Kind: api.OpScan, A: 9, B: 3}, api.OK}, // Of keys from 9 to 3 there are none, but it may be asked (7).
		{api.Op{Kind: api.OpScan, A: maxValue, B: maxValue}, api.OK},
		{api.Op{Kind: api.OpScan, B: maxValue + 1}, over},
		{api.Op{Kind: api.OpAdd, C: api.Allow}, api.OK},
		{api.Op{Kind: api.OpAdd, A: maxWho, B: maxWho, C: api.Deny}, api.OK},
		{api.Op{Kind: api.OpAdd, A: 1, B: 1}, over},
		{api.Op{Kind: api.OpAdd, A: 1, B: 1, C: 3}, over},
		{api.Op{Kind: api.OpAdd, A: maxWho + 1, C: api.Deny}, over},
		{api.Op{Kind: api.OpAdd, B: maxWho + 1, C: api.Deny}, over},
		{api.Op{Kind: api.OpDrop}, api.OK},
		{api.Op{Kind: api.OpDrop, A: maxWho, B: maxWho}, api.OK},
		{api.Op{Kind: api.OpDrop, C: 1}, over},
		{api.Op{Kind: api.OpCheck, A: 1, B: 1}, api.OK},
		{api.Op{Kind: api.OpCheck, A: maxWho, B: maxWho}, api.OK},
		{api.Op{Kind: api.OpCheck, A: 0, B: 1}, over},
		{api.Op{Kind: api.OpCheck, A: 1, B: 0}, over},
		{api.Op{Kind: api.OpCheck, A: maxWho + 1, B: 1}, over},
		{api.Op{Kind: api.OpSet, A: 1}, api.OK},
		{api.Op{Kind: api.OpSet, A: maxWho, C: maxValue}, api.OK},
		{api.Op{Kind: api.OpSet, A: math.MaxUint32, B: maxWho, C: maxValue}, api.OK},
		{api.Op{Kind: api.OpSet, A: 65536*2 + 1, B: 3, C: 4}, api.OK},
		{api.Op{Kind: api.OpSet}, over},
		{api.Op{Kind: api.OpSet, A: 65536}, over},
		{api.Op{Kind: api.OpSet, A: 1, B: 3}, over},
		{api.Op{Kind: api.OpSet, A: 65537, B: maxWho + 1}, over},
		{api.Op{Kind: api.OpSet, A: 65537, B: 1, C: maxValue + 1}, over},
		{api.Op{Kind: api.OpUnset, A: 65537, B: 1}, api.OK},
		{api.Op{Kind: api.OpUnset, A: 65537, B: 1, C: 1}, over},
		{api.Op{Kind: api.OpRead, A: 65537, B: 1}, api.OK},
		{api.Op{Kind: api.OpRead, A: 0, B: 1}, over},
		{api.Op{Kind: api.OpRead, A: 1, C: 1}, over},
	} {
		if e := op.Check(ofObject(op.Object(x.o.Kind)), x.o); e != x.want {
			t.Errorf("Check(%v) = %d, not %d", x.o, e, x.want)
		}
	}
}

// P5.1: what fits hangs on the object and its sizes alone: other instances, threads, indicators and batches turn no answer.
func TestCheckHangsOnTheObjectAlone(t *testing.T) {
	for _, k := range kinds() {
		small := ofObject(k.object)
		great := small
		great.Instances, great.Threads, great.Kind, great.Stripes = 4, 16, api.KindStripes, 4
		great.Cap, great.Batch, great.Limit, great.Most = 32, 16, 1<<62, 1<<62
		for _, x := range numbers() {
			for _, y := range numbers() {
				for _, z := range []uint32{0, 1, 2, 3, maxValue, maxValue + 1} {
					o := api.Op{Kind: k.kind, A: x, B: y, C: z}
					if e, f := op.Check(small, o), op.Check(great, o); e != f {
						t.Fatalf("Check(%v) = %d, and %d of a greater engine", o, e, f)
					}
				}
			}
		}
	}
}

// anyOps has operations of all numbers of kinds, also of nobody's, with numbers that fit and such as do not.
func anyOps() []api.Op {
	var l []api.Op
	for number := range 256 {
		for _, n := range numbers() {
			l = append(l, api.Op{Kind: uint8(number), A: n}, api.Op{Kind: uint8(number), B: n}, api.Op{Kind: uint8(number), C: n},
				api.Op{Kind: uint8(number), A: n, B: ^n, C: n/2 + 3})
		}
	}
	return l
}

func seqs() []uint64 {
	return []uint64{0, 1, 2, 9, 64, 65, 1 << 31, 1 << 32, 1 << 62, 1 << 63, math.MaxUint64}
}

// P5.2: every bit of the cell, worked out by sums; whatever the operation is.
func TestLaidEveryOperation(t *testing.T) {
	for _, seq := range seqs() {
		for _, o := range anyOps() {
			want := api.Cell{Tag: seq, A: uint64(o.Kind) + 256*uint64(o.A), B: uint64(o.B), C: uint64(o.C)}
			if l := op.Laid(seq, o); l != want {
				t.Fatalf("Laid(%d, %v) = %v, not %v", seq, o, l, want)
			}
		}
	}
}

// P5.4: what is announced is what is read.
func TestOfWhatIsLaid(t *testing.T) {
	for _, seq := range seqs() {
		for _, o := range anyOps() {
			if n, got := op.Of(op.Laid(seq, o)); n != seq || got != o {
				t.Fatalf("Of(Laid(%d, %v)) = %d, %v", seq, o, n, got)
			}
		}
	}
}

// P5.2: single bits of each word: those of the operation are read where they stand, and all others count for nothing.
func TestOfEveryBit(t *testing.T) {
	for bit := range 64 {
		one := uint64(1) << bit
		var a, b, c api.Op
		switch {
		case bit < 8:
			a.Kind = uint8(1) << bit
		case bit < 40:
			a.A = uint32(1) << (bit - 8)
		}
		if bit < 32 {
			b.B, c.C = uint32(1)<<bit, uint32(1)<<bit
		}
		checkOf(t, api.Cell{Tag: one}, one, api.Op{})
		checkOf(t, api.Cell{A: one}, 0, a)
		checkOf(t, api.Cell{B: one}, 0, b)
		checkOf(t, api.Cell{C: one}, 0, c)
	}
}

func checkOf(t *testing.T, l api.Cell, seq uint64, want api.Op) {
	t.Helper()
	if n, o := op.Of(l); n != seq || o != want {
		t.Errorf("Of(%v) = %d, %v, not %d, %v", l, n, o, seq, want)
	}
}

// P5.2: whatever stands in the other bits, the operation that is read is the same.
func TestOfOtherBits(t *testing.T) {
	for _, o := range anyOps() {
		plain := op.Laid(7, o)
		for _, beside := range []uint64{1 << 40, 1 << 63, 0xFFFFFF << 40, 0xABCDEF << 40} {
			l := plain
			l.A |= beside
			l.B |= beside &^ math.MaxUint32
			l.C |= beside>>8&^math.MaxUint32 | 1<<32
			checkOf(t, l, 7, o)
		}
	}
	checkOf(t, api.Cell{Tag: math.MaxUint64, A: math.MaxUint64, B: math.MaxUint64, C: math.MaxUint64}, math.MaxUint64,
		api.Op{Kind: 255, A: math.MaxUint32, B: math.MaxUint32, C: math.MaxUint32})
}

// P5.4: two operations are not announced by one cell, nor one of them by two numbers.
func TestNoCellOfTwo(t *testing.T) {
	type said struct {
		seq uint64
		o   api.Op
	}
	was := map[api.Cell]said{}
	for _, seq := range seqs() {
		for _, o := range anyOps() {
			l := op.Laid(seq, o)
			if w, ok := was[l]; ok && w != (said{seq, o}) {
				t.Fatalf("%v announces %v and %v", l, w, said{seq, o})
			}
			was[l] = said{seq, o}
		}
	}
}

// P5.3 and Rules of DOC.md: nothing is turned, and nothing is kept: asked backwards, all calls answer what they did.
func TestNothingIsKept(t *testing.T) {
	type answers struct {
		e    api.Errno
		l    api.Cell
		seq  uint64
		o    api.Op
		kind uint8
		does bool
	}
	c := ofObject(api.ObjAccess)
	ask := func(o api.Op) answers {
		kept, config := o, c
		a := answers{e: op.Check(c, o), l: op.Laid(3, o), kind: op.Object(o.Kind), does: op.Writes(o.Kind)}
		a.seq, a.o = op.Of(api.Cell{Tag: uint64(o.B), A: uint64(o.A), B: uint64(o.Kind), C: uint64(o.C)})
		if o != kept || c != config {
			t.Fatalf("%v was turned", kept)
		}
		return a
	}
	var first []answers
	l := anyOps()
	for _, o := range l {
		first = append(first, ask(o))
	}
	for i, o := range slices.Backward(l) {
		if again := ask(o); again != first[i] {
			t.Fatalf("of %v: %v, and then %v", o, first[i], again)
		}
	}
}
