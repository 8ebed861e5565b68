package pack

import "iter"

const wordBits = 64

// span is where a field stands in a word: from which bit on, and how many of them.
type span struct {
	at   int
	bits int
}

// inWord holds at against what bits leave of the word: a sum of the two could wrap round.
func (s span) inWord() bool {
	return s.bits >= 1 && s.bits <= wordBits && s.at >= 0 && s.at <= wordBits-s.bits
}

// spans asks a function how many bits each field has, so that a list of fields and one of bits are gone through alike.
func spans(count int, bitsOf func(int) int) iter.Seq2[int, span] {
	return func(yield func(int, span) bool) {
		next := fromStart()
		for i := range count {
			if !yield(i, next(bitsOf(i))) {
				return
			}
		}
	}
}

// fromStart keeps where the last field ended in a closure, so that nobody who goes through fields sums their bits up.
func fromStart() func(bits int) span {
	at := 0
	return func(bits int) span {
		s := span{at: at, bits: bits}
		at += bits
		return s
	}
}

// mayStand stops at the first span that is not in the word: a sum of bits that wrapped round behind it is never looked at.
func mayStand(count int, bitsOf func(int) int) bool {
	for _, s := range spans(count, bitsOf) {
		if !s.inWord() {
			return false
		}
	}
	return true
}
