package part

import (
	"iter"
	"sort"

	"bascule/api"
)

const versions = 2

// placed tells which place stands so many cells behind the first one of a part.
type placed func(i int) api.Place

// parts yields how many cells each part has, and which places they are, in the memory's order: so the parts of instances come instance by instance.
func parts(c api.Config) iter.Seq2[int, placed] {
	return func(yield func(int, placed) bool) {
		for _, b := range shared(c) {
			if !yield(b.laid()) {
				return
			}
		}
		size := sizeOf(c)
		for n := range c.Instances {
			desc := block{part: api.PartDesc, firstA: n, manyA: 1, manyB: 1}
			object := block{part: api.PartObject, firstA: n, manyA: 1, manyB: size}
			if !yield(desc.laid()) || !yield(object.laid()) {
				return
			}
		}
	}
}

// shared has the parts that stand ahead of all instances.
func shared(c api.Config) []block {
	l := []block{
		{part: api.PartVersion, manyA: 1, manyB: 1},
		{part: api.PartLeft, manyA: 1, manyB: 1},
		{part: api.PartControl, manyA: 1, manyB: 1},
		{part: api.PartSlot, manyA: c.Threads, manyB: 1},
		{part: api.PartResult, manyA: c.Threads, manyB: 1},
	}
	if c.Kind == api.KindSlots {
		return append(l, block{part: api.PartMark, manyA: versions, manyB: c.Threads})
	}
	return append(l,
		block{part: api.PartIn, manyA: versions, manyB: c.Stripes},
		block{part: api.PartOut, manyA: versions, manyB: c.Stripes})
}

// block is so many numbers A of a part, from the first one on, and of each so many numbers B, from 0 on. A part that has no B has the one B 0.
type block struct {
	part   uint8
	firstA int
	manyA  int
	manyB  int
}

func (b block) laid() (many int, place placed) {
	return b.manyA * b.manyB, func(i int) api.Place {
		return api.Place{Part: b.part, A: b.firstA + i/b.manyB, B: i % b.manyB}
	}
}

// seek leans on the order in a part: its places rise. A place of another part is found nowhere, as it is none of this one's.
func seek(many int, place placed, p api.Place) (int, bool) {
	i := sort.Search(many, func(i int) bool { return !isAhead(place(i), p) })
	return i, i < many && place(i) == p
}

func isAhead(p, q api.Place) bool {
	return p.A < q.A || p.A == q.A && p.B < q.B
}

func count(c api.Config) int {
	sum := 0
	for many := range parts(c) {
		sum += many
	}
	return sum
}
