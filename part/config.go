package part

import (
	"cmp"

	"bascule/api"
	"bascule/rank"
)

func mayBe(c api.Config) bool {
	return objectMayBe(c) && indicatorMayBe(c) &&
		isFrom(c.Instances, api.MinInstances, api.MaxInstances) &&
		isFrom(c.Threads, 1, api.MaxThreads) &&
		isFrom(c.Cap, 1, api.MaxCap) &&
		isFrom(c.Batch, 1, api.MaxBatch) &&
		isFrom(c.Limit, 2*api.Stride, api.MaxLimit)
}

// objectMayBe asks noughts for what an object has no use for, so that no two configs say the same.
func objectMayBe(c api.Config) bool {
	switch c.Object {
	case api.ObjRoute:
		return isFrom(c.Bits, 1, api.MaxBits) && c.Node == 0 && c.Chunk == 0
	case api.ObjIndex:
		return c.Bits == 0 && isFrom(c.Node, api.MinNode, api.MaxNode) && isFrom(c.Chunk, 1, api.MaxChunk)
	case api.ObjAccess, api.ObjConfig:
		return c.Bits == 0 && c.Node == 0 && c.Chunk == 0
	}
	return false
}

func indicatorMayBe(c api.Config) bool {
	switch c.Kind {
	case api.KindSlots:
		return c.Stripes == 0 && c.Most == 0
	case api.KindStripes:
		return isFrom(c.Stripes, 1, api.MaxStripes) && isFrom(c.Most, 1, api.MaxLimit)
	}
	return false
}

func isFrom[N cmp.Ordered](n, low, high N) bool {
	return low <= n && n <= high
}

// sizeOf asks for a config that may be, as do all below: no other one has levels, or places.
func sizeOf(c api.Config) int {
	switch c.Object {
	case api.ObjRoute:
		return 1 << (c.Bits + 1)
	case api.ObjIndex:
		return headers + itemsOf(c)
	}
	return c.Cap
}

// headers is what an index has ahead of its levels.
const headers = 1

func itemsOf(c api.Config) int {
	sum := 0
	// No error can come: a Cap and a Node that may be are a row and a width that may be.
	levels, _ := rank.Levels(c.Cap, c.Node)
	for _, items := range levels {
		sum += items
	}
	return sum
}

// stagesBehind is how many stages a batch has from its instances' number on.
const stagesBehind = 5

func rest(c api.Config) uint64 {
	return uint64(c.Instances + stagesBehind)
}
