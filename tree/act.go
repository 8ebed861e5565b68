package tree

import (
	"bascule/api"
	"bascule/rank"
)

// What stands ahead of the levels.
const (
	header  = 0
	headers = 1
)

// reading and writing make an act with a cell of a level; they say as well whether there is that cell.
type (
	reading func(h, i int) (act api.Act, there bool)
	writing func(h, i int, a, b uint64) (act api.Act, there bool)
)

// makers are closures that know the levels, so that a row of the chapter's table names no more than a level and a number.
func makers(levels []int) (reading, writing) {
	offset := func(h, i int) (at int, there bool) {
		if i < 0 || i >= levels[h] {
			return 0, false
		}
		at = headers + i
		for _, many := range levels[:h] {
			at += many
		}
		return at, true
	}
	read := func(h, i int) (api.Act, bool) {
		at, there := offset(h, i)
		return api.Act{Kind: api.ActRead, At: at}, there
	}
	write := func(h, i int, a, b uint64) (api.Act, bool) {
		at, there := offset(h, i)
		return api.Act{Kind: api.ActWrite, At: at, A: a, B: b}, there
	}
	return read, write
}

// actOf asks for a frame whose operation fits, whose Pc its kind has, and whose registers may be.
func actOf(s shape, f api.Frame) (act api.Act, there bool) {
	read, write := makers(s.levels)
	i, n, p, h := int(f.I), int(f.N), int(f.P), int(f.H)
	switch f.Pc {
	case pcHeader:
		return api.Act{Kind: api.ActRead, At: header}, true
	case pcSeek:
		return read(h, i)
	case pcFloor:
		return read(entries, p-1)
	case pcReplace, pcInsert:
		return write(entries, p, uint64(f.A), uint64(f.B))
	case pcRoomRead:
		return read(entries, i-1)
	case pcRoomWrite:
		act, there = write(entries, i, uint64(f.X), uint64(f.Y))
		// What is moved came from the entry below.
		return act, there && i >= 1
	case pcCount:
		return api.Act{Kind: api.ActWrite, At: header, A: uint64(n)}, true
	case pcGapRead:
		return read(entries, i)
	case pcGapWrite:
		return write(entries, i-1, uint64(f.X), uint64(f.Y))
	case pcEmpty:
		return write(entries, n-1, 0, 0)
	case pcScan:
		return read(entries, p)
	case pcLast, pcItem, pcClear:
		return actAbove(s, f, read, write)
	case pcGive:
		return api.Act{Kind: api.ActGive}, true
	}
	return answer(f), true
}

// actAbove is of the rows by which the items follow the entries.
func actAbove(s shape, f api.Frame, read reading, write writing) (act api.Act, there bool) {
	i, h := int(f.I), int(f.H)
	if h == entries {
		return api.Act{}, false
	}
	if f.Pc == pcClear {
		return write(h, s.itemsNow(f), 0, 0)
	}
	// Its error says just what may not be: an item that N entries do not ask for.
	last, e := rank.Last(int(f.N), s.wide, h, i)
	if e != api.OK {
		return api.Act{}, false
	}
	if f.Pc == pcLast {
		return read(h-1, last)
	}
	return write(h, i, uint64(f.X), 0)
}

func answer(f api.Frame) api.Act {
	act := api.Act{Kind: api.ActDone}
	switch f.Pc {
	case pcNone:
		act.Code = api.ErrNone
	case pcFull:
		act.Code = api.ErrFull
	case pcWord:
		act.V = f.Y + 1
	case pcDeleted:
		act.V = f.B
	}
	return act
}
