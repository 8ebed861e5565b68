package model

import (
	"bascule/api"
	"bascule/order"
	"bascule/part"
	"bascule/paths"
	"bascule/rules"
	"bascule/table"
)

// object is a config's, as its layer tells of it.
type object interface {
	is(l []api.Row) bool
	do(l []api.Row, o api.Op) (out []api.Row, r api.Res, e api.Errno)
}

// The four objects are configs, which their layers ask for.
type (
	routes   api.Config
	index    api.Config
	access   api.Config
	settings api.Config
)

func objectOf(c api.Config) (object, api.Errno) {
	if e := part.Check(c); e != api.OK {
		return nil, e
	}
	switch c.Object {
	case api.ObjRoute:
		return routes(c), api.OK
	case api.ObjIndex:
		return index(c), api.OK
	case api.ObjAccess:
		return access(c), api.OK
	}
	return settings(c), api.OK
}

func (x routes) is(l []api.Row) bool { return table.Is(api.Config(x), l) }

func (x routes) do(l []api.Row, o api.Op) ([]api.Row, api.Res, api.Errno) {
	return table.Do(api.Config(x), l, o)
}

func (x index) is(l []api.Row) bool { return order.Is(api.Config(x), l) }

func (x index) do(l []api.Row, o api.Op) ([]api.Row, api.Res, api.Errno) {
	return order.Do(api.Config(x), l, o)
}

func (x access) is(l []api.Row) bool { return rules.Is(api.Config(x), l) }

func (x access) do(l []api.Row, o api.Op) ([]api.Row, api.Res, api.Errno) {
	return rules.Do(api.Config(x), l, o)
}

func (x settings) is(l []api.Row) bool { return paths.Is(api.Config(x), l) }

func (x settings) do(l []api.Row, o api.Op) ([]api.Row, api.Res, api.Errno) {
	return paths.Do(api.Config(x), l, o)
}
