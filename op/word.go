package op

import (
	"bascule/api"
	"bascule/pack"
)

const (
	kindBits   = 8
	numberBits = 32
)

// kindAndNumber has no error to tell, nor have those below: the types leave no number that is too great, and all fields end in the word.
func kindAndNumber(kind uint8, a uint32) uint64 {
	w, _ := pack.Join([]api.Field{{Bits: kindBits, V: uint64(kind)}, {Bits: numberBits, V: uint64(a)}})
	return w
}

func kindIn(w uint64) uint8 {
	v, _ := pack.Get(w, 0, kindBits)
	return uint8(v)
}

func numberIn(w uint64, at int) uint32 {
	v, _ := pack.Get(w, at, numberBits)
	return uint32(v)
}
