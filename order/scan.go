package order

import (
	"iter"

	"bascule/api"
)

// scan needs no case of its own for a last key ahead of the first one: then the first row that is yielded is beyond it.
func scan(l []api.Row, o api.Op) api.Res {
	last := uint64(o.B)
	return api.Res{Rows: gather(rowsFrom(l, o.A), func(r api.Row) bool { return r.K <= last })}
}

// rowsFrom yields the rows from a key on, in order.
func rowsFrom(l []api.Row, first uint32) iter.Seq[api.Row] {
	return func(yield func(api.Row) bool) {
		at, _ := seek(l, first)
		for _, r := range l[at:] {
			if !yield(r) {
				return
			}
		}
	}
}

// gather ends at the first one that is not wanted: as rows are in order, none behind it is. What it answers is memory of its own.
func gather[T any](all iter.Seq[T], wanted func(T) bool) []T {
	var out []T
	for x := range all {
		if !wanted(x) {
			break
		}
		out = append(out, x)
	}
	return out
}
