// Package pack is layer 1, fields of words: see shared/doc/01-pack.md.
package pack

import "bascule/api"

func Get(w uint64, at, bits int) (uint64, api.Errno) {
	s := span{at: at, bits: bits}
	if !s.inWord() {
		return 0, api.ErrArg
	}
	return word[uint64]{w}.field(s), api.OK
}

func Put(w uint64, at, bits int, v uint64) (uint64, api.Errno) {
	s := span{at: at, bits: bits}
	if !s.inWord() {
		return 0, api.ErrArg
	}
	if !fits(v, s) {
		return 0, api.ErrOver
	}
	return word[uint64]{w}.with(s, v).v, api.OK
}

func Join(l []api.Field) (uint64, api.Errno) {
	bitsOf := func(i int) int { return l[i].Bits }
	// All places are asked ahead of any number: ErrArg is named first, also where a number too great stands ahead of a bad place.
	if !mayStand(len(l), bitsOf) {
		return 0, api.ErrArg
	}
	var w word[uint64]
	for i, s := range spans(len(l), bitsOf) {
		if !fits(l[i].V, s) {
			return 0, api.ErrOver
		}
		w = w.with(s, l[i].V)
	}
	return w.v, api.OK
}

func Split(w uint64, bits []int) ([]uint64, api.Errno) {
	bitsOf := func(i int) int { return bits[i] }
	// Asked ahead of the answer's making, so that a list that is too long costs no memory.
	if !mayStand(len(bits), bitsOf) {
		return nil, api.ErrArg
	}
	out := make([]uint64, len(bits))
	for i, s := range spans(len(bits), bitsOf) {
		out[i] = word[uint64]{w}.field(s)
	}
	return out, api.OK
}
