package tree

import (
	"bascule/api"
	"bascule/rank"
)

// entries is the level that an index's rows stand in; the items are above it.
const entries = 0

// shape is what a config says of how an index stands in an instance.
type shape struct {
	most  int
	wide  int
	chunk int
	// levels has how many cells each level has, from the entries to the top.
	levels []int
}

// shapeOf asks for a config that may be, of ObjIndex, so that no error can come: its Cap and Node are a row and a width that may be.
func shapeOf(c api.Config) shape {
	levels, _ := rank.Levels(c.Cap, c.Node)
	return shape{most: c.Cap, wide: c.Node, chunk: c.Chunk, levels: levels}
}

func (s shape) top() int {
	return len(s.levels) - 1
}

// itemsNow is how many items there are on the frame's level. Its N and H have been asked for already, here and below: no error can come.
func (s shape) itemsNow(f api.Frame) int {
	n, _ := rank.Count(int(f.N), s.wide, int(f.H))
	return n
}

// itemsBefore is how many there were, before an entry was taken out. A frame whose N is Cap has had none taken out.
func (s shape) itemsBefore(f api.Frame) int {
	n, _ := rank.Count(min(int(f.N)+1, s.most), s.wide, int(f.H))
	return n
}

// above is which item of the frame's level is for the entry P.
func (s shape) above(f api.Frame) int {
	i := int(f.P)
	for range f.H {
		i /= s.wide
	}
	return i
}
