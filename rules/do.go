package rules

import (
	"slices"

	"bascule/api"
)

// add turns the rows that it is handed, as drop does: they are its caller's own.
func add(c api.Config, l []api.Row, o api.Op) ([]api.Row, api.Res) {
	at, there := seek(l, o)
	says := uint64(o.C)
	switch {
	case there:
		said := l[at].V
		l[at].V = says
		return l, api.Res{V: uint32(said)}
	case len(l) == c.Cap:
		return l, api.Res{Code: api.ErrFull}
	}
	return slices.Insert(l, at, api.Row{K: keyOf(o.A, o.B), V: says}), api.Res{}
}

func drop(l []api.Row, o api.Op) ([]api.Row, api.Res) {
	at, there := seek(l, o)
	if !there {
		return l, api.Res{Code: api.ErrNone}
	}
	said := l[at].V
	return slices.Delete(l, at, at+1), api.Res{V: uint32(said)}
}
