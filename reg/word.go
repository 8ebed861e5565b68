package reg

import (
	"bascule/api"
	"bascule/pack"
)

const pairBits = 32

// small is one of a desc's fields that share a word: how many bits it has there, and where it stands in the desc.
type small struct {
	bits int
	at   *uint8
}

// smalls has them in the word's order, from bit 0 on, for what lays them and what reads them alike.
func smalls(d *api.Desc) [9]small {
	f := &d.Frame
	return [...]small{
		{5, &d.K}, {7, &d.Seq}, {4, &f.Kind}, {5, &f.Pc}, {7, &f.I}, {7, &f.J}, {6, &f.N}, {6, &f.P}, {3, &f.H},
	}
}

// smallWord tells ErrOver, if a field does not fit; no other error may be, as all of them end in the word.
func smallWord(d api.Desc) (uint64, api.Errno) {
	all := smalls(&d)
	var fields [len(all)]api.Field
	for i, s := range all {
		fields[i] = api.Field{Bits: s.bits, V: uint64(*s.at)}
	}
	return word(fields[:]...)
}

// readSmall has no error to tell: as the other way, all fields end in the word.
func readSmall(d *api.Desc, w uint64) {
	at := 0
	for _, s := range smalls(d) {
		v, _ := pack.Get(w, at, s.bits)
		*s.at = uint8(v)
		at += s.bits
	}
}

// pairWord has no error to tell: two numbers of half a word each always fit.
func pairWord(low, high uint32) uint64 {
	w, _ := word(api.Field{Bits: pairBits, V: uint64(low)}, api.Field{Bits: pairBits, V: uint64(high)})
	return w
}

func pairIn(w uint64) (low, high uint32) {
	l, _ := pack.Get(w, 0, pairBits)
	h, _ := pack.Get(w, pairBits, pairBits)
	return uint32(l), uint32(h)
}

// word is of as many fields as there are, one behind the other from bit 0 on.
func word(fields ...api.Field) (uint64, api.Errno) {
	return pack.Join(fields)
}
