package gate

import "bascule/api"

func actOf(f api.Frame) api.Act {
	switch f.Pc {
	case pcRead:
		return api.Act{Kind: api.ActRead, At: int(f.I)}
	case pcWrite:
		return write(f)
	case pcNone:
		return api.Act{Kind: api.ActDone, Code: api.ErrNone}
	case pcFull:
		return api.Act{Kind: api.ActDone, Code: api.ErrFull}
	}
	return api.Act{Kind: api.ActDone, V: f.X}
}

// write is a rule's, or of OpDrop noughts'.
func write(f api.Frame) api.Act {
	act := api.Act{Kind: api.ActWrite, At: int(f.J)}
	if f.Kind == api.OpAdd {
		act.A, act.B, act.C = uint64(f.Y), uint64(f.A), uint64(f.B)
	}
	return act
}

// step turns a frame that may be, of so many cells, to the one behind its act.
type step struct {
	most  int
	frame api.Frame
}

// turn leaves a frame that is done as it is.
func (s *step) turn(l api.Cell) {
	switch {
	case s.frame.Pc == pcWrite:
		s.frame.Pc = pcDone
	case s.frame.Pc != pcRead:
		return
	case s.frame.Kind == api.OpCheck:
		s.listen(l)
	default:
		s.seek(l)
	}
}

// seek reads all cells ahead of taking room, as the rule may stand behind it.
func (s *step) seek(l api.Cell) {
	f := &s.frame
	isRule, isRoom := ruleOf(*f), roomFor(*f)
	switch {
	case isRule(l):
		f.X, f.J, f.Pc = uint32(l.A), f.I, pcWrite
		return
	case isRoom(l):
		f.J, f.H = f.I, roomAtJ
	}
	s.goOn()
}

// listen goes on behind a rule that allows, for one that denies may stand behind it.
func (s *step) listen(l api.Cell) {
	f := &s.frame
	if speaks := speakingOf(*f); speaks(l) {
		if l.A == uint64(api.Deny) {
			f.X, f.Pc = api.Deny, pcDone
			return
		}
		f.X = api.Allow
	}
	s.goOn()
}

func (s *step) goOn() {
	if int(s.frame.I)+1 < s.most {
		s.frame.I++
		return
	}
	s.endReading()
}

// endReading is what an operation does where nothing is left to be read. Of OpAdd the rule was not there, so that it said nothing: X is 0, be there room or not.
func (s *step) endReading() {
	f := &s.frame
	end := uint8(pcFull)
	switch {
	case f.Kind == api.OpAdd && f.H == roomAtJ:
		end = pcWrite
		fallthrough
	case f.Kind == api.OpAdd:
		f.X = 0
	case f.Kind == api.OpDrop:
		end = pcNone
	case f.Kind == api.OpCheck:
		end = pcDone
	}
	f.Pc = end
}
