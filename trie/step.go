package trie

import "bascule/api"

const (
	root = 1
	// counts is how many a frame's N tells apart, and so does what is written by it.
	counts = 64
	// oneLess is what a count is taken down by, where it may only rise.
	oneLess = counts - 1
)

// step is a frame that may be, of a config, and what its act reads.
type step struct {
	config api.Config
	frame  api.Frame
	read   api.Cell
}

func (s step) findToInsert() (api.Act, api.Frame) {
	f := s.takeOver()
	if f.X != 0 {
		f.Pc = pcTurn
	} else {
		f.Pc = pcRoom
	}
	return readAt(lastNode(s.config, f)), f
}

// askForRoom asks the root, as all routes are at it, or below it.
func (s step) askForRoom() (api.Act, api.Frame) {
	f := s.frame
	if s.read.B >= uint64(s.config.Cap) {
		f.Pc = pcFull
	} else {
		f.Pc, f.H = pcRead, 0
	}
	return readAt(root), f
}

func (s step) findToRemove() (api.Act, api.Frame) {
	f := s.takeOver()
	if f.X == 0 {
		f.Pc = pcNone
	} else {
		f.Pc, f.H = pcRead, 0
	}
	return readAt(lastNode(s.config, f)), f
}

func (s step) readNode() (api.Act, api.Frame) {
	f := s.takeOver()
	f.Pc = pcWrite
	return readAt(nodeNow(s.config, f)), f
}

func (s step) countIn() (api.Act, api.Frame) {
	return s.count(1, hopWord(s.frame))
}

func (s step) countOut() (api.Act, api.Frame) {
	return s.count(oneLess, 0)
}

// count lets the nodes above the prefix's keep their words.
func (s step) count(more, prefixWord uint64) (api.Act, api.Frame) {
	f := s.frame
	act := writeAt(nodeNow(s.config, f), uint64(f.X), uint64(f.N)+more)
	if int(f.H) == deepest(s.config, f) {
		act.A, f.Pc = prefixWord, pcDone
	} else {
		f.H, f.Pc = f.H+1, pcRead
	}
	return act, f
}

func (s step) turnHop() (api.Act, api.Frame) {
	f := s.frame
	f.Pc = pcDone
	return writeAt(lastNode(s.config, f), hopWord(f), uint64(f.N)), f
}

// followKey goes down as long as there is a route further below: one that is counted, and is not the node's own.
func (s step) followKey() (api.Act, api.Frame) {
	f, word := s.frame, uint32(s.read.A)
	if word != 0 {
		f.X = word
	}
	more := s.read.B > 1 || s.read.B == 1 && word == 0
	switch {
	case more && int(f.H) < s.config.Bits:
		f.H++
	case f.X != 0:
		f.Pc = pcDone
	default:
		f.Pc = pcNone
	}
	return readAt(nodeNow(s.config, s.frame)), f
}

func (s step) tellWord() (api.Act, api.Frame) {
	return api.Act{Kind: api.ActDone, V: s.frame.X}, s.frame
}

func (s step) tellFull() (api.Act, api.Frame) {
	return api.Act{Kind: api.ActDone, Code: api.ErrFull}, s.frame
}

func (s step) tellNone() (api.Act, api.Frame) {
	return api.Act{Kind: api.ActDone, Code: api.ErrNone}, s.frame
}

func (s step) takeOver() api.Frame {
	f := s.frame
	f.X, f.N = uint32(s.read.A), uint8(s.read.B%counts)
	return f
}

// hopWord is of OpInsert, whose hop stands in Y.
func hopWord(f api.Frame) uint64 {
	return uint64(f.Y) + 1
}

func readAt(node int) api.Act {
	return api.Act{Kind: api.ActRead, At: node}
}

func writeAt(node int, word, routes uint64) api.Act {
	return api.Act{Kind: api.ActWrite, At: node, A: word, B: routes % counts}
}
