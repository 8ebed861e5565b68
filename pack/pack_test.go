package pack_test

import (
	"math"
	"slices"
	"testing"

	"bascule/api"
	"bascule/pack"
)

const all = math.MaxUint64

// words have single bits, rows of bits, and none, so that a field that is cut one bit off shows.
var words = []uint64{0, 1, 2, 3, 37, 48, 3840, 1 << 31, 1 << 32, 1 << 62, 1 << 63, 1<<63 | 1,
	0x5555555555555555, 0xAAAAAAAAAAAAAAAA, 0x0123456789ABCDEF, 0xFEDCBA9876543210, all - 1, all}

// spot is a field's place, as it is handed in.
type spot struct{ at, bits int }

func goodSpots() []spot {
	var l []spot
	for bits := 1; bits <= 64; bits++ {
		for at := 0; at+bits <= 64; at++ {
			l = append(l, spot{at, bits})
		}
	}
	return l
}

// badSpots has all that miss by one, and numbers whose sum wraps round.
func badSpots() []spot {
	l := []spot{{0, 0}, {0, -1}, {0, 65}, {-1, 1}, {-1, 64}, {-1, 65}, {64, 0}, {64, 1}, {65, -1}, {65, 1}, {63, 2},
		{1, 64}, {32, 33}, {-64, 64}, {128, -64}, {1 << 32, 1}, {1, 1 << 32}, {1<<32 + 1, 1}, {1, 1<<32 + 1},
		{1 << 8, 1}, {1, 1<<8 + 1}, {1, 1<<16 + 1}}
	for _, far := range []int{math.MinInt, math.MinInt + 1, math.MinInt + 64, math.MaxInt, math.MaxInt - 1, math.MaxInt - 63} {
		l = append(l, spot{far, 1}, spot{far, 64}, spot{0, far}, spot{1, far}, spot{63, far}, spot{far, far}, spot{far, -far})
	}
	for bits := 1; bits <= 64; bits++ {
		l = append(l, spot{65 - bits, bits}, spot{-1, bits})
	}
	return l
}

// bitsFrom reads a field bit by bit: slow, but by another way than the program's.
func bitsFrom(w uint64, at, bits int) uint64 {
	var v uint64
	for i := bits - 1; i >= 0; i-- {
		v *= 2
		if w&(1<<(at+i)) != 0 {
			v++
		}
	}
	return v
}

// greatest is the last number that fits, made by doubling.
func greatest(bits int) uint64 {
	var v uint64
	for range bits {
		v = 2*v + 1
	}
	return v
}

// P1.1: the chapter's examples.
func TestGetAndPutExamples(t *testing.T) {
	if v, e := pack.Get(48, 4, 2); v != 3 || e != api.OK {
		t.Error(v, e)
	}
	if w, e := pack.Put(0, 8, 4, 15); w != 3840 || e != api.OK {
		t.Error(w, e)
	}
	if w, e := pack.Put(0, 8, 4, 16); w != 0 || e != api.ErrOver {
		t.Error(w, e)
	}
}

// P1.1: a field of 64 bits, and such as end at bit 64.
func TestGetEdges(t *testing.T) {
	for _, c := range []struct {
		w        uint64
		at, bits int
		want     uint64
	}{
		{all, 0, 64, all}, {0, 0, 64, 0}, {1 << 63, 0, 64, 1 << 63},
		{1 << 63, 63, 1, 1}, {all >> 1, 63, 1, 0}, {all, 1, 63, all >> 1}, {1<<63 | 1, 1, 63, 1 << 62},
		{0xABCD << 48, 48, 16, 0xABCD}, {all, 32, 32, math.MaxUint32}, {1, 0, 1, 1}, {2, 0, 1, 0},
	} {
		if v, e := pack.Get(c.w, c.at, c.bits); v != c.want || e != api.OK {
			t.Errorf("Get(%#x, %d, %d) = %#x, %d", c.w, c.at, c.bits, v, e)
		}
	}
}

// P1.1: every place that may be, held against a reading bit by bit.
func TestGetEverywhere(t *testing.T) {
	for _, w := range words {
		for _, s := range goodSpots() {
			if v, e := pack.Get(w, s.at, s.bits); v != bitsFrom(w, s.at, s.bits) || e != api.OK {
				t.Fatalf("Get(%#x, %d, %d) = %#x, %d", w, s.at, s.bits, v, e)
			}
		}
	}
}

// P1.1, P1: places that may not be are ErrArg with a zero, for Put also where the number is too great besides.
func TestGetAndPutBadPlaces(t *testing.T) {
	for _, w := range []uint64{0, 48, all} {
		for _, s := range badSpots() {
			if v, e := pack.Get(w, s.at, s.bits); v != 0 || e != api.ErrArg {
				t.Errorf("Get(%#x, %d, %d) = %#x, %d", w, s.at, s.bits, v, e)
			}
			for _, n := range []uint64{0, 1, all} {
				if v, e := pack.Put(w, s.at, s.bits, n); v != 0 || e != api.ErrArg {
					t.Errorf("Put(%#x, %d, %d, %#x) = %#x, %d", w, s.at, s.bits, n, v, e)
				}
			}
		}
	}
}

// P1.1, P1.4: the last number that fits is put, and no other bit turns; the next one is ErrOver with a zero.
func TestPutLastThatFits(t *testing.T) {
	for _, w := range words {
		for _, s := range goodSpots() {
			last := greatest(s.bits)
			checkPut(t, w, s, last)
			if s.bits == 64 {
				continue
			}
			for _, v := range []uint64{last + 1, last + 2, 1 << 63, all} {
				if v <= last {
					continue
				}
				if got, e := pack.Put(w, s.at, s.bits, v); got != 0 || e != api.ErrOver {
					t.Fatalf("Put(%#x, %d, %d, %#x) = %#x, %d", w, s.at, s.bits, v, got, e)
				}
			}
		}
	}
}

// P1.4: what is put is there, and no other bit is turned.
func TestPutIsThere(t *testing.T) {
	for _, w := range words {
		for _, s := range goodSpots() {
			for _, n := range words {
				checkPut(t, w, s, n&greatest(s.bits))
			}
		}
	}
}

func checkPut(t *testing.T, w uint64, s spot, v uint64) {
	t.Helper()
	got, e := pack.Put(w, s.at, s.bits, v)
	if e != api.OK {
		t.Fatalf("Put(%#x, %d, %d, %#x): %d", w, s.at, s.bits, v, e)
	}
	if back, e := pack.Get(got, s.at, s.bits); back != v || e != api.OK {
		t.Fatalf("Put(%#x, %d, %d, %#x) = %#x, of which Get says %#x, %d", w, s.at, s.bits, v, got, back, e)
	}
	for i := range 64 {
		inside := i >= s.at && i < s.at+s.bits
		if !inside && (got^w)&(1<<i) != 0 {
			t.Fatalf("Put(%#x, %d, %d, %#x) = %#x turns bit %d", w, s.at, s.bits, v, got, i)
		}
	}
}

// P1.2: the chapter's examples.
func TestJoinAndSplitExamples(t *testing.T) {
	if w, e := pack.Join([]api.Field{{Bits: 4, V: 5}, {Bits: 8, V: 2}}); w != 37 || e != api.OK {
		t.Error(w, e)
	}
	if l, e := pack.Split(37, []int{4, 8}); !slices.Equal(l, []uint64{5, 2}) || e != api.OK {
		t.Error(l, e)
	}
}

// P1.2: no fields, one of 64 bits, and 64 bits together.
func TestJoinEdges(t *testing.T) {
	for _, c := range []struct {
		l    []api.Field
		want uint64
	}{
		{nil, 0}, {[]api.Field{}, 0}, {[]api.Field{{Bits: 1, V: 1}}, 1}, {[]api.Field{{Bits: 7, V: 0}}, 0},
		{[]api.Field{{Bits: 64, V: all}}, all}, {[]api.Field{{Bits: 64, V: 0}}, 0},
		{[]api.Field{{Bits: 63, V: 0}, {Bits: 1, V: 1}}, 1 << 63},
		{[]api.Field{{Bits: 1, V: 1}, {Bits: 63, V: 0}}, 1},
		{[]api.Field{{Bits: 1, V: 0}, {Bits: 63, V: all >> 1}}, all - 1},
		{[]api.Field{{Bits: 16, V: 1}, {Bits: 16, V: 2}, {Bits: 32, V: math.MaxUint32}}, 0xFFFFFFFF00020001},
		{[]api.Field{{Bits: 8, V: 0}, {Bits: 8, V: 255}}, 0xFF00},
	} {
		if w, e := pack.Join(c.l); w != c.want || e != api.OK {
			t.Errorf("Join(%v) = %#x, %d", c.l, w, e)
		}
	}
}

// P1.2: no bits, all 64, and bits behind the last field, which no field speaks of.
func TestSplitEdges(t *testing.T) {
	for _, c := range []struct {
		w    uint64
		bits []int
		want []uint64
	}{
		{all, nil, nil}, {0, []int{}, nil}, {all, []int{64}, []uint64{all}}, {1 << 63, []int{63, 1}, []uint64{0, 1}},
		{1 << 63, []int{1, 63}, []uint64{0, 1 << 62}}, {all, []int{4}, []uint64{15}}, {all, []int{1, 2, 3}, []uint64{1, 3, 7}},
		{0xFFFFFFFF00020001, []int{16, 16, 32}, []uint64{1, 2, math.MaxUint32}},
	} {
		if l, e := pack.Split(c.w, c.bits); !slices.Equal(l, c.want) || e != api.OK {
			t.Errorf("Split(%#x, %v) = %v, %d", c.w, c.bits, l, e)
		}
	}
}

// badBits may not be those of fields: one that is out of bounds, wherever it stands, or too many together.
func badBits() [][]int {
	long := slices.Repeat([]int{1}, 65)
	return [][]int{{0}, {-1}, {65}, {64, 1}, {1, 64}, {63, 2}, {32, 32, 1}, {4, 0}, {0, 4}, {4, -4}, {-4, 68}, {8, -1, 8},
		{64, 0}, {64, -1}, {64, -64, 64}, {math.MaxInt}, {math.MinInt}, {math.MaxInt, math.MaxInt, 2}, {1, math.MaxInt},
		{64, math.MaxInt}, {2, math.MaxInt, math.MaxInt}, {math.MinInt, math.MinInt, 4}, {1 << 32, 4}, {1<<32 + 1}, {1<<8 + 1},
		long, slices.Repeat([]int{64}, 1000), slices.Repeat([]int{1}, 1<<16)}
}

// P1.2, P1: fields that may not be are ErrArg with nothing beside it.
func TestJoinAndSplitBadFields(t *testing.T) {
	for _, bits := range badBits() {
		for _, w := range []uint64{0, 37, all} {
			if l, e := pack.Split(w, bits); len(l) != 0 || e != api.ErrArg {
				t.Errorf("Split(%#x, %v) = %v, %d", w, bits, l, e)
			}
		}
		for _, v := range []uint64{0, 1} {
			if w, e := pack.Join(fieldsOf(bits, v)); w != 0 || e != api.ErrArg {
				t.Errorf("Join of bits %v, each %d = %#x, %d", bits, v, w, e)
			}
		}
	}
}

func fieldsOf(bits []int, v uint64) []api.Field {
	var l []api.Field
	for _, n := range bits {
		l = append(l, api.Field{Bits: n, V: v})
	}
	return l
}

// P1.2, P1: a number that is too great is ErrOver, wherever it stands.
func TestJoinOver(t *testing.T) {
	for _, l := range [][]api.Field{
		{{Bits: 1, V: 2}}, {{Bits: 4, V: 16}}, {{Bits: 4, V: all}}, {{Bits: 63, V: 1 << 63}},
		{{Bits: 4, V: 16}, {Bits: 8, V: 2}}, {{Bits: 4, V: 5}, {Bits: 8, V: 256}},
		{{Bits: 32, V: 1 << 32}, {Bits: 32, V: 0}}, {{Bits: 32, V: 0}, {Bits: 32, V: 1 << 32}},
		{{Bits: 1, V: 0}, {Bits: 63, V: 1 << 63}}, {{Bits: 63, V: 0}, {Bits: 1, V: 2}}, {{Bits: 63, V: 0}, {Bits: 1, V: all}},
	} {
		if w, e := pack.Join(l); w != 0 || e != api.ErrOver {
			t.Errorf("Join(%v) = %#x, %d", l, w, e)
		}
	}
}

// P1.2, P1: ErrArg is named first, also where the number that is too great stands first.
func TestJoinArgBeforeOver(t *testing.T) {
	for _, l := range [][]api.Field{
		{{Bits: 4, V: 16}, {Bits: 0, V: 0}}, {{Bits: 0, V: 0}, {Bits: 4, V: 16}}, {{Bits: 0, V: 1}}, {{Bits: -1, V: all}},
		{{Bits: 4, V: 16}, {Bits: 61, V: 0}}, {{Bits: 4, V: 16}, {Bits: 65, V: all}},
		{{Bits: 1, V: 2}, {Bits: 63, V: 0}, {Bits: 1, V: 0}}, {{Bits: 4, V: 16}, {Bits: math.MinInt, V: 0}},
		{{Bits: 4, V: 16}, {Bits: math.MaxInt, V: 0}},
	} {
		if w, e := pack.Join(l); w != 0 || e != api.ErrArg {
			t.Errorf("Join(%v) = %#x, %d", l, w, e)
		}
	}
}

// cuts are rows of bits of all lengths, made by a rule: whole words, and such as leave bits behind.
func cuts() [][]int {
	l := [][]int{nil, slices.Repeat([]int{1}, 64), slices.Repeat([]int{2}, 32), slices.Repeat([]int{16}, 4), {64}}
	for first := 1; first <= 64; first++ {
		for step := range 9 {
			var row []int
			for sum, n := 0, first; n >= 1 && sum+n <= 64; n = (n*5+step)%17 + 1 {
				row = append(row, n)
				sum += n
			}
			l = append(l, row)
		}
	}
	return l
}

// P1.2, P1.4: a word is split into what stands there bit by bit, and what is joined is split as it was.
func TestJoinedIsSplitAsItWas(t *testing.T) {
	for _, bits := range cuts() {
		for _, w := range words {
			numbers, e := pack.Split(w, bits)
			if e != api.OK || len(numbers) != len(bits) {
				t.Fatalf("Split(%#x, %v) = %v, %d", w, bits, numbers, e)
			}
			sum := 0
			l := make([]api.Field, len(bits))
			for i, n := range bits {
				if numbers[i] != bitsFrom(w, sum, n) {
					t.Fatalf("Split(%#x, %v) = %v: number %d", w, bits, numbers, i)
				}
				l[i] = api.Field{Bits: n, V: numbers[i]}
				sum += n
			}
			joined, e := pack.Join(l)
			if joined != bitsFrom(w, 0, sum) || e != api.OK {
				t.Fatalf("Join(%v) = %#x, %d", l, joined, e)
			}
			if again, e := pack.Split(joined, bits); !slices.Equal(again, numbers) || e != api.OK {
				t.Fatalf("Split(%#x, %v) = %v, %d", joined, bits, again, e)
			}
		}
	}
}

// P1.3: lists that are handed in are as they were, also the cells behind their ends, and with errors.
func TestListsAreOnlyRead(t *testing.T) {
	for _, bits := range append(badBits(), []int{4, 8}, []int{64}, slices.Repeat([]int{1}, 64)) {
		room := append(slices.Clone(bits), 77)
		pack.Split(all, room[:len(bits)])
		if !slices.Equal(room[:len(bits)], bits) || room[len(bits)] != 77 {
			t.Errorf("Split turned %v", bits)
		}
		for _, v := range []uint64{0, 1, all} {
			l := append(fieldsOf(bits, v), api.Field{Bits: 77, V: 77})
			was := slices.Clone(l)
			pack.Join(l[:len(bits)])
			if !slices.Equal(l, was) {
				t.Errorf("Join turned bits %v, each %d", bits, v)
			}
		}
	}
}

// P1.3: what is answered is new memory: nobody's change of it is seen by another call.
func TestSplitAnswersNewMemory(t *testing.T) {
	bits := []int{4, 8}
	first, _ := pack.Split(37, bits)
	second, _ := pack.Split(37, bits)
	first[0], first[1] = 99, 99
	_ = append(first, 98)
	if !slices.Equal(second, []uint64{5, 2}) || !slices.Equal(bits, []int{4, 8}) {
		t.Error(second, bits)
	}
	if third, e := pack.Split(37, bits); !slices.Equal(third, []uint64{5, 2}) || e != api.OK {
		t.Error(third, e)
	}
}
