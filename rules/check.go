package rules

import (
	"iter"

	"bascule/api"
)

// verdict goes on behind a rule that allows, for one that denies overrides it wherever it stands; behind one that denies there is nothing left to ask.
func verdict(l []api.Row, o api.Op) uint32 {
	heard := uint32(0)
asking:
	for says := range speaking(l, o.A, o.B) {
		switch says {
		case api.Deny:
			heard = says
			break asking
		case api.Allow:
			heard = says
		}
	}
	return heard
}

// speaking yields what the rules say that speak of who would do what.
func speaking(l []api.Row, who, what uint32) iter.Seq[uint32] {
	return func(yield func(uint32) bool) {
		for _, r := range l {
			if isMeant(r.K/whos, who) && isMeant(r.K%whos, what) && !yield(uint32(r.V)) {
				return
			}
		}
	}
}

// isMeant says whether a rule's who, or its what, is that one, or all of them.
func isMeant(named uint64, asked uint32) bool {
	return named == 0 || named == uint64(asked)
}
