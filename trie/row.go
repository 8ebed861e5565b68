package trie

import "bascule/api"

// Where a frame is, by the chapter's numbers.
const (
	pcFind  = 0
	pcRoom  = 1
	pcRead  = 2
	pcWrite = 3
	pcTurn  = 5
	pcDone  = 6
	pcFull  = 7
	pcNone  = 8
)

// row is one of the chapter's table: a frame's act, and the frame behind it.
type row func(s step) (api.Act, api.Frame)

// rowOf answers nil where the table has no row, so that what it lacks is told in no second place.
func rowOf(f api.Frame) row {
	switch f.Kind {
	case api.OpInsert:
		return insertRow(f.Pc)
	case api.OpRemove:
		return removeRow(f.Pc)
	case api.OpLookup:
		return lookupRow(f.Pc)
	}
	return nil
}

func insertRow(pc uint8) row {
	switch pc {
	case pcFind:
		return step.findToInsert
	case pcRoom:
		return step.askForRoom
	case pcRead:
		return step.readNode
	case pcWrite:
		return step.countIn
	case pcTurn:
		return step.turnHop
	case pcDone:
		return step.tellWord
	case pcFull:
		return step.tellFull
	}
	return nil
}

func removeRow(pc uint8) row {
	switch pc {
	case pcFind:
		return step.findToRemove
	case pcRead:
		return step.readNode
	case pcWrite:
		return step.countOut
	case pcDone:
		return step.tellWord
	case pcNone:
		return step.tellNone
	}
	return nil
}

func lookupRow(pc uint8) row {
	switch pc {
	case pcFind:
		return step.followKey
	case pcDone:
		return step.tellWord
	case pcNone:
		return step.tellNone
	}
	return nil
}
