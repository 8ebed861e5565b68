package op

import "bascule/api"

// objects has a kind's object at its number; 0 is nobody's.
var objects = [...]uint8{
	api.OpInsert: api.ObjRoute,
	api.OpRemove: api.ObjRoute,
	api.OpLookup: api.ObjRoute,
	api.OpPut:    api.ObjIndex,
	api.OpDelete: api.ObjIndex,
	api.OpGet:    api.ObjIndex,
	api.OpFloor:  api.ObjIndex,
	api.OpScan:   api.ObjIndex,
	api.OpAdd:    api.ObjAccess,
	api.OpDrop:   api.ObjAccess,
	api.OpCheck:  api.ObjAccess,
	api.OpSet:    api.ObjConfig,
	api.OpUnset:  api.ObjConfig,
	api.OpRead:   api.ObjConfig,
}
