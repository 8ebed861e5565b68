package rank

import "bascule/api"

// powers has a line for each width, the least first, and in it the width to the power of each level's number.
var powers = [api.MaxNode - api.MinNode + 1][api.MaxHigh + 1]int{
	{1, 2, 4, 8, 16},
	{1, 3, 9, 27, 81},
	{1, 4, 16, 64, 256},
}

// row is how many items level 0 has, and how many of a level an item above it is for.
type row struct {
	many int
	wide int
}

// mayBe lets a row be empty: Count is asked of one that has no items yet.
func (r row) mayBe() bool {
	return r.many >= 0 && r.many <= api.MaxCap && r.wide >= api.MinNode && r.wide <= api.MaxNode
}

// itemsUp asks for a row that may be, and an h from 0 to MaxHigh: the table has no others.
func (r row) itemsUp(h int) int {
	power := powers[r.wide-api.MinNode][h]
	return (r.many + power - 1) / power
}
