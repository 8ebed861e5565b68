package tree

import "bascule/api"

// step turns a frame that may be to the one behind its act.
type step struct {
	shape
	frame api.Frame
	row   api.Row
	told  bool
}

// turn has the chapter's table, row by row; a frame that is done has no case, and stays.
func (s *step) turn(l api.Cell) {
	f := &s.frame
	switch f.Pc {
	case pcHeader:
		s.start(l)
	case pcSeek:
		s.seek(l)
	case pcFloor:
		s.takeOver(l)
		s.tell()
		f.Pc = pcOver
	case pcReplace:
		f.Pc = pcWord
	case pcRoomRead:
		s.takeOver(l)
		f.Pc = pcRoomWrite
	case pcRoomWrite:
		s.makeMoreRoom()
	case pcInsert:
		f.N++
		f.Pc = pcCount
	case pcCount:
		f.H = entries
		s.goUp()
	case pcLast:
		s.takeOver(l)
		f.Pc = pcItem
	case pcItem:
		f.I++
		s.stayOrGoUp()
	case pcClear:
		s.goUp()
	case pcGapRead:
		s.takeOver(l)
		f.Pc = pcGapWrite
	case pcGapWrite:
		s.moveGapOn()
	case pcEmpty:
		f.N--
		f.Pc = pcCount
	case pcGive:
		f.J = 0
		s.nextRow()
	case pcScan:
		s.takeOver(l)
		s.scan()
	}
}

func (s *step) takeOver(l api.Cell) {
	s.frame.X, s.frame.Y = uint32(l.A), uint32(l.B)
}

func (s *step) tell() {
	s.row, s.told = api.Row{K: uint64(s.frame.X), V: uint64(s.frame.Y)}, true
}

func (s *step) start(l api.Cell) {
	f := &s.frame
	f.N = uint8(min(l.A, uint64(s.most)))
	if f.N == 0 {
		s.none()
		return
	}
	f.H, f.I, f.Pc = uint8(s.top()), 0, pcSeek
}

// seek goes down by the first item of each level that is for a key of A or more, and to the right by all others.
func (s *step) seek(l api.Cell) {
	f := &s.frame
	switch {
	case l.A < uint64(f.A):
		s.seekRight()
	case f.H > entries:
		f.H--
		f.I *= uint8(s.wide)
	default:
		f.P = f.I
		s.takeOver(l)
		s.found()
	}
}

// seekRight gives up where those items end that one above is for: so the way has an end, whatever is read.
func (s *step) seekRight() {
	next := int(s.frame.I) + 1
	if next%s.wide == 0 || next >= s.itemsNow(s.frame) {
		s.none()
		return
	}
	s.frame.I++
}

// found is of an entry whose key is A or more.
func (s *step) found() {
	switch {
	case s.frame.Kind == api.OpScan:
		s.scan()
	case s.frame.X == s.frame.A:
		s.hit()
	default:
		s.miss()
	}
}

// none is where all keys are below A.
func (s *step) none() {
	s.frame.P = s.frame.N
	s.miss()
}

func (s *step) hit() {
	f := &s.frame
	switch f.Kind {
	case api.OpGet:
		f.Pc = pcWord
	case api.OpFloor:
		s.tell()
		f.Pc = pcOver
	case api.OpPut:
		f.Pc = pcReplace
	case api.OpDelete:
		s.takeOut()
	}
}

// miss is where no entry has the key A: of those at P, and behind it, all have greater ones.
func (s *step) miss() {
	f := &s.frame
	switch f.Kind {
	case api.OpGet, api.OpDelete:
		f.Pc = pcNone
	case api.OpFloor:
		f.Pc = pcFloor
		if f.P == 0 {
			f.Pc = pcNone
		}
	case api.OpScan:
		f.Pc = pcOver
	case api.OpPut:
		s.putIn()
	}
}

// takeOut keeps the word in B, as X and Y are what entries are moved by.
func (s *step) takeOut() {
	f := &s.frame
	f.B = f.Y + 1
	if f.P+1 >= f.N {
		f.Pc = pcEmpty
		return
	}
	f.Pc, f.I = pcGapRead, f.P+1
}

func (s *step) putIn() {
	f := &s.frame
	switch {
	case int(f.N) >= s.most:
		f.Pc = pcFull
	case f.P >= f.N:
		f.Pc = pcInsert
	default:
		f.Pc, f.I = pcRoomRead, f.N
	}
}

func (s *step) scan() {
	f := &s.frame
	if f.X > f.B {
		f.Pc = pcOver
		return
	}
	s.tell()
	f.J++
	if int(f.J) >= s.chunk {
		f.Pc = pcGive
		return
	}
	s.nextRow()
}

func (s *step) nextRow() {
	f := &s.frame
	if f.P+1 >= f.N {
		f.Pc = pcOver
		return
	}
	f.P++
	f.Pc = pcScan
}

// makeMoreRoom goes on with the entry below, till the place P is free.
func (s *step) makeMoreRoom() {
	f := &s.frame
	f.I--
	f.Pc = pcRoomRead
	if f.I <= f.P {
		f.Pc = pcInsert
	}
}

// moveGapOn goes on with the entry behind, till the gap is the last one's place.
func (s *step) moveGapOn() {
	f := &s.frame
	f.I++
	f.Pc = pcGapRead
	if f.I >= f.N {
		f.Pc = pcEmpty
	}
}

// goUp stops at the first level on which something is left to be written.
func (s *step) goUp() {
	f := &s.frame
up:
	if int(f.H) == s.top() {
		f.Pc = pcPut
		if f.Kind == api.OpDelete {
			f.Pc = pcDeleted
		}
		return
	}
	f.H++
	f.I = uint8(s.above(*f))
	if !s.stays() {
		goto up
	}
}

func (s *step) stayOrGoUp() {
	if !s.stays() {
		s.goUp()
	}
}

// stays says whether something is left on the level: items from I on that stand for other entries now, or one that stands for none any more.
func (s *step) stays() bool {
	f := &s.frame
	now := s.itemsNow(*f)
	switch {
	case int(f.I) < now:
		f.Pc = pcLast
	case f.Kind == api.OpDelete && s.itemsBefore(*f) > now:
		f.Pc = pcClear
	default:
		return false
	}
	return true
}
