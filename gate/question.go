package gate

import "bascule/api"

// question asks what a cell is to a frame. Each is a closure that knows the frame's numbers, made as wide as a cell's words: a word is never cut to be held against them.
type question func(l api.Cell) bool

// ruleOf asks whether the cell has the rule that the frame's operation names.
func ruleOf(f api.Frame) question {
	who, what := uint64(f.A), uint64(f.B)
	return func(l api.Cell) bool {
		return l.A != 0 && l.B == who && l.C == what
	}
}

// speakingOf asks whether the cell has a rule that speaks of whom and what the frame's operation names.
func speakingOf(f api.Frame) question {
	who, what := uint64(f.A), uint64(f.B)
	return func(l api.Cell) bool {
		return l.A != 0 && (l.B == 0 || l.B == who) && (l.C == 0 || l.C == what)
	}
}

// roomFor asks whether the cell is the first one that the frame's operation could put its rule in.
func roomFor(f api.Frame) question {
	seeks := f.Kind == api.OpAdd && f.H == noRoomYet
	return func(l api.Cell) bool {
		return seeks && l.A == 0
	}
}
