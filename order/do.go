package order

import (
	"slices"

	"bascule/api"
)

// put turns the rows that it is handed, as takeOut does: they are its caller's own.
func put(c api.Config, l []api.Row, o api.Op) ([]api.Row, api.Res) {
	at, there := seek(l, o.A)
	switch {
	case there:
		was := l[at].V
		l[at].V = uint64(o.B)
		return l, api.Res{V: wordOf(was)}
	case len(l) == c.Cap:
		return l, api.Res{Code: api.ErrFull}
	}
	return slices.Insert(l, at, api.Row{K: uint64(o.A), V: uint64(o.B)}), api.Res{}
}

func takeOut(l []api.Row, o api.Op) ([]api.Row, api.Res) {
	r := get(l, o)
	if r.Code == api.OK {
		at, _ := seek(l, o.A)
		l = slices.Delete(l, at, at+1)
	}
	return l, r
}

func get(l []api.Row, o api.Op) api.Res {
	at, there := seek(l, o.A)
	if !there {
		return api.Res{Code: api.ErrNone}
	}
	return api.Res{V: wordOf(l[at].V)}
}

// floor seeks the key behind the one that is asked for, which a key that fits always has: what stands ahead of that place is that key at most.
func floor(l []api.Row, o api.Op) api.Res {
	behind, _ := seek(l, o.A+1)
	if behind == 0 {
		return api.Res{Code: api.ErrNone}
	}
	return api.Res{Rows: []api.Row{l[behind-1]}}
}

// wordOf is one more, so that a value of 0 is not the 0 of none.
func wordOf(value uint64) uint32 {
	return uint32(value) + 1
}
