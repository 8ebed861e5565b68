package rank

import (
	"math/bits"

	"bascule/api"
)

// lastNode ends the deepest level, whose first node is as many as there are nodes above it, and one.
const lastNode = 1<<(api.MaxBits+1) - 1

func isNode(n int) bool {
	return n >= 1 && n <= lastNode
}

// depthOf leans on a node's number: its first bit stands for the root, and each bit behind it for a level gone down.
func depthOf(n int) int {
	return bits.Len(uint(n)) - 1
}
