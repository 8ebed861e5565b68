package reg_test

import (
	"math"
	"slices"
	"testing"

	"bascule/api"
	"bascule/reg"
)

// example is the chapter's desc.
func example() api.Desc {
	f := reg.Start(api.Op{Kind: api.OpInsert, A: 5, B: 3, C: 7})
	f.Pc = 3
	return api.Desc{Tag: 9, K: 1, Seq: 2, Frame: f}
}

// field is one of the small ones: its first number that does not fit, and what one of it counts in the cell's A, as the chapter's sums tell.
type field struct {
	name   string
	behind int
	worth  uint64
	in     func(d *api.Desc) *uint8
}

func fields() []field {
	l := []field{
		{"K", 32, 0, func(d *api.Desc) *uint8 { return &d.K }},
		{"Seq", 128, 0, func(d *api.Desc) *uint8 { return &d.Seq }},
		{"Kind", 16, 0, func(d *api.Desc) *uint8 { return &d.Frame.Kind }},
		{"Pc", 32, 0, func(d *api.Desc) *uint8 { return &d.Frame.Pc }},
		{"I", 128, 0, func(d *api.Desc) *uint8 { return &d.Frame.I }},
		{"J", 128, 0, func(d *api.Desc) *uint8 { return &d.Frame.J }},
		{"N", 64, 0, func(d *api.Desc) *uint8 { return &d.Frame.N }},
		{"P", 64, 0, func(d *api.Desc) *uint8 { return &d.Frame.P }},
		{"H", 8, 0, func(d *api.Desc) *uint8 { return &d.Frame.H }},
	}
	worth := uint64(1)
	for i := range l {
		l[i].worth = worth
		worth *= uint64(l[i].behind)
	}
	return l
}

// behindAll is the first bit of a cell's A that no field has.
const behindAll = 50

// numbers stand at both ends of a half of a word, and have single bits and rows of them.
var numbers = []uint32{0, 1, 2, 3, 5, 1 << 15, 1<<16 - 1, 1 << 16, 1<<31 - 1, 1 << 31, 0x01234567, 0xFEDCBA98, math.MaxUint32 - 1, math.MaxUint32}

var tags = []uint64{0, 1, 9, 65536, 1 << 31, 1 << 32, 1 << 62, 1 << 63, 0x0123456789ABCDEF, math.MaxUint64}

// someDescs fit: each small field alone at all its numbers, all of them at their ends, and wide numbers beside.
func someDescs() []api.Desc {
	l := []api.Desc{{}, example(), greatest()}
	for _, s := range fields() {
		for v := range s.behind {
			for _, d := range []api.Desc{{}, greatest(), example()} {
				*s.in(&d) = uint8(v)
				l = append(l, d)
			}
		}
	}
	for _, n := range numbers {
		for _, d := range []api.Desc{{}, greatest(), example()} {
			for _, in := range wides(&d) {
				was := *in
				*in = n
				l = append(l, d)
				*in = was
			}
		}
	}
	for _, tag := range tags {
		l = append(l, api.Desc{Tag: tag}, api.Desc{Tag: tag, K: 31, Frame: api.Frame{H: 7, X: 1, Y: 2}})
	}
	return l
}

func wides(d *api.Desc) []*uint32 {
	return []*uint32{&d.Frame.A, &d.Frame.B, &d.Frame.X, &d.Frame.Y}
}

func greatest() api.Desc {
	d := api.Desc{Tag: math.MaxUint64}
	for _, s := range fields() {
		*s.in(&d) = uint8(s.behind - 1)
	}
	for _, in := range wides(&d) {
		*in = math.MaxUint32
	}
	return d
}

// cellBySums is a desc's cell by sums and products alone: a way that the program does not go.
func cellBySums(d api.Desc) api.Cell {
	l := api.Cell{Tag: d.Tag}
	for _, s := range fields() {
		l.A += s.worth * uint64(*s.in(&d))
	}
	f := d.Frame
	l.B = uint64(f.A) + 4294967296*uint64(f.B)
	l.C = uint64(f.X) + 4294967296*uint64(f.Y)
	return l
}

// P11.1: the chapter's examples.
func TestExamples(t *testing.T) {
	f := reg.Start(api.Op{Kind: api.OpInsert, A: 5, B: 3, C: 7})
	if f != (api.Frame{Kind: 1, A: 5, B: 3, Y: 7}) {
		t.Error(f)
	}
	if l, e := reg.Laid(example()); e != api.OK || l != (api.Cell{Tag: 9, A: 200769, B: 12884901893, C: 30064771072}) {
		t.Error(l, e)
	}
	if l, e := reg.Laid(api.Desc{K: 32}); e != api.ErrOver || l != (api.Cell{}) {
		t.Error(l, e)
	}
}

// P11.1: a later chapter's cell (25): a batch's first update, which is fetched and nothing more.
func TestLaidAsItIsFetched(t *testing.T) {
	d := api.Desc{Tag: 65537, Seq: 2, Frame: reg.Start(api.Op{Kind: api.OpAdd, A: 1, B: 7, C: api.Deny})}
	if l, e := reg.Laid(d); e != api.OK || l != (api.Cell{Tag: 65537, A: 36928, B: 30064771073, C: 8589934592}) {
		t.Error(l, e)
	}
}

// P11.1, P11.3: a frame that starts has all of its operation, whatever that is, and noughts beside it.
func TestStartAnyOperation(t *testing.T) {
	for kind := range 256 {
		for _, n := range numbers {
			for _, o := range []api.Op{{A: n}, {B: n}, {C: n}, {A: n, B: ^n, C: n/2 + 3}, {A: n, B: n, C: n}} {
				o.Kind = uint8(kind)
				want := api.Frame{Kind: o.Kind, A: o.A, B: o.B, Y: o.C}
				if f := reg.Start(o); f != want {
					t.Fatalf("Start(%v) = %v, not %v", o, f, want)
				}
			}
		}
	}
}

// P11.1: every bit of the cells of descs that fit.
func TestLaidEveryField(t *testing.T) {
	for _, d := range someDescs() {
		if l, e := reg.Laid(d); e != api.OK || l != cellBySums(d) {
			t.Fatalf("Laid(%v) = %v, %d, not %v", d, l, e, cellBySums(d))
		}
	}
}

// P11.1: where each field begins in the word, by hand, so that a width that two fields trade shows.
func TestLaidPlaces(t *testing.T) {
	for _, x := range []struct {
		d    api.Desc
		want api.Cell
	}{
		{api.Desc{}, api.Cell{}},
		{api.Desc{Tag: math.MaxUint64}, api.Cell{Tag: math.MaxUint64}},
		{api.Desc{K: 1}, api.Cell{A: 1}},
		{api.Desc{K: 31}, api.Cell{A: 31}},
		{api.Desc{Seq: 1}, api.Cell{A: 1 << 5}},
		{api.Desc{Seq: 127}, api.Cell{A: 127 << 5}},
		{api.Desc{Frame: api.Frame{Kind: 1}}, api.Cell{A: 1 << 12}},
		{api.Desc{Frame: api.Frame{Kind: 15}}, api.Cell{A: 15 << 12}},
		{api.Desc{Frame: api.Frame{Pc: 1}}, api.Cell{A: 1 << 16}},
		{api.Desc{Frame: api.Frame{Pc: 31}}, api.Cell{A: 31 << 16}},
		{api.Desc{Frame: api.Frame{I: 1}}, api.Cell{A: 1 << 21}},
		{api.Desc{Frame: api.Frame{I: 127}}, api.Cell{A: 127 << 21}},
		{api.Desc{Frame: api.Frame{J: 1}}, api.Cell{A: 1 << 28}},
		{api.Desc{Frame: api.Frame{J: 127}}, api.Cell{A: 127 << 28}},
		{api.Desc{Frame: api.Frame{N: 1}}, api.Cell{A: 1 << 35}},
		{api.Desc{Frame: api.Frame{N: 63}}, api.Cell{A: 63 << 35}},
		{api.Desc{Frame: api.Frame{P: 1}}, api.Cell{A: 1 << 41}},
		{api.Desc{Frame: api.Frame{P: 63}}, api.Cell{A: 63 << 41}},
		{api.Desc{Frame: api.Frame{H: 1}}, api.Cell{A: 1 << 47}},
		{api.Desc{Frame: api.Frame{H: 7}}, api.Cell{A: 7 << 47}},
		{api.Desc{Frame: api.Frame{A: 1}}, api.Cell{B: 1}},
		{api.Desc{Frame: api.Frame{B: 1}}, api.Cell{B: 1 << 32}},
		{api.Desc{Frame: api.Frame{X: 1}}, api.Cell{C: 1}},
		{api.Desc{Frame: api.Frame{Y: 1}}, api.Cell{C: 1 << 32}},
		{greatest(), api.Cell{Tag: math.MaxUint64, A: 1<<behindAll - 1, B: math.MaxUint64, C: math.MaxUint64}},
	} {
		if l, e := reg.Laid(x.d); e != api.OK || l != x.want {
			t.Errorf("Laid(%v) = %v, %d, not %v", x.d, l, e, x.want)
		}
		if d := reg.Of(x.want); d != x.d {
			t.Errorf("Of(%v) = %v, not %v", x.want, d, x.d)
		}
	}
}

// P11.1, P1: every number of a small field that does not fit is ErrOver with a zero cell, whatever the others are.
func TestLaidEveryNumberThatDoesNotFit(t *testing.T) {
	for _, s := range fields() {
		for v := s.behind; v < 256; v++ {
			for _, d := range []api.Desc{{}, example(), greatest()} {
				*s.in(&d) = uint8(v)
				if l, e := reg.Laid(d); e != api.ErrOver || l != (api.Cell{}) {
					t.Errorf("Laid of %s %d = %v, %d", s.name, v, l, e)
				}
			}
		}
	}
}

// P11.1, P1: two fields that do not fit, and all of them, are ErrOver, too.
func TestLaidSeveralThatDoNotFit(t *testing.T) {
	every := greatest()
	for _, s := range fields() {
		for _, r := range fields() {
			d := example()
			*s.in(&d), *r.in(&d) = uint8(s.behind), uint8(r.behind)
			if l, e := reg.Laid(d); e != api.ErrOver || l != (api.Cell{}) {
				t.Errorf("Laid of %s and %s behind their last = %v, %d", s.name, r.name, l, e)
			}
		}
		*s.in(&every) = 255
	}
	if l, e := reg.Laid(every); e != api.ErrOver || l != (api.Cell{}) {
		t.Error(l, e)
	}
}

// P11.3: what is laid is read, whatever stands in the bits 50 to 63 of its A.
func TestOfWhatIsLaid(t *testing.T) {
	for _, d := range someDescs() {
		l, e := reg.Laid(d)
		if e != api.OK {
			t.Fatalf("Laid(%v): %d", d, e)
		}
		for _, beside := range []uint64{0, 1, 2, 1 << 12, 1 << 13, 0x2AAA, 0x1555, 1<<14 - 1} {
			other := l
			other.A |= beside << behindAll
			if got := reg.Of(other); got != d {
				t.Fatalf("Of(%v) = %v, not %v", other, got, d)
			}
		}
	}
}

// anyCells have single bits in each word, and rows of them.
func anyCells() []api.Cell {
	words := []uint64{0, math.MaxUint64, 0x5555555555555555, 0xAAAAAAAAAAAAAAAA, 0x0123456789ABCDEF, 0xFEDCBA9876543210}
	for bit := range 64 {
		words = append(words, 1<<bit, ^uint64(1<<bit))
	}
	var l []api.Cell
	for _, w := range words {
		l = append(l, api.Cell{Tag: w}, api.Cell{A: w}, api.Cell{B: w}, api.Cell{C: w}, api.Cell{Tag: w, A: ^w, B: w / 3, C: w * 5})
	}
	return l
}

// P11.1, P11.3, P1: every cell is read as a desc that fits, and that is laid as the cell was, but for the bits 50 to 63 of its A.
func TestLaidOfWhatIsRead(t *testing.T) {
	for _, l := range anyCells() {
		d := reg.Of(l)
		want := l
		want.A %= 1 << behindAll
		if got, e := reg.Laid(d); e != api.OK || got != want {
			t.Errorf("Laid(Of(%v)) = %v, %d", l, got, e)
		}
	}
}

// P11.3: two descs that fit have two cells.
func TestNoCellOfTwo(t *testing.T) {
	was := map[api.Cell]api.Desc{}
	for _, d := range someDescs() {
		l, e := reg.Laid(d)
		if e != api.OK {
			t.Fatalf("Laid(%v): %d", d, e)
		}
		if w, ok := was[l]; ok && w != d {
			t.Fatalf("%v is the cell of %v and of %v", l, w, d)
		}
		was[l] = d
	}
}

// P11.2 and Rules of DOC.md: nothing is kept: asked backwards, all calls answer what they did.
func TestNothingIsKept(t *testing.T) {
	type answers struct {
		l api.Cell
		e api.Errno
		d api.Desc
		f api.Frame
	}
	ask := func(d api.Desc) answers {
		kept := d
		l, e := reg.Laid(d)
		other := api.Cell{Tag: d.Tag, A: uint64(d.Frame.A) * 77777, B: uint64(d.K), C: uint64(d.Frame.Y)}
		a := answers{l, e, reg.Of(other), reg.Start(api.Op{Kind: d.K, A: d.Frame.A, B: d.Frame.X, C: d.Frame.Y})}
		if d != kept {
			t.Fatalf("%v was turned", kept)
		}
		return a
	}
	l := append(someDescs(), api.Desc{K: 32}, api.Desc{Tag: 5, Frame: api.Frame{H: 8}})
	var first []answers
	for _, d := range l {
		first = append(first, ask(d))
	}
	for i, d := range slices.Backward(l) {
		if again := ask(d); again != first[i] {
			t.Fatalf("of %v: %v, and then %v", d, first[i], again)
		}
	}
}
