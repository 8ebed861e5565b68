package op

import "bascule/api"

// fits asks for a config that may be. A kind that lets fewer numbers through than another one asks for its own share, and falls through to the other one's.
func fits(c api.Config, o api.Op) bool {
	switch o.Kind {
	case api.OpRemove:
		if o.C != 0 {
			return false
		}
		fallthrough
	case api.OpInsert:
		return isPrefix(c, o.A, o.B) && isValue(o.C)
	case api.OpLookup:
		return o.A < 1<<c.Bits && o.B == 0 && o.C == 0
	case api.OpDelete, api.OpGet, api.OpFloor:
		if o.B != 0 {
			return false
		}
		fallthrough
	case api.OpPut, api.OpScan:
		return isValue(o.A) && isValue(o.B) && o.C == 0
	case api.OpAdd:
		return isWho(o.A) && isWho(o.B) && (o.C == api.Allow || o.C == api.Deny)
	case api.OpCheck:
		if o.A == 0 || o.B == 0 {
			return false
		}
		fallthrough
	case api.OpDrop:
		return isWho(o.A) && isWho(o.B) && o.C == 0
	case api.OpUnset, api.OpRead:
		if o.C != 0 {
			return false
		}
		fallthrough
	case api.OpSet:
		return isPath(o.A, o.B) && isValue(o.C)
	}
	return false
}

// isPrefix asks the length first: a number is shifted by no more than a key's bits.
func isPrefix(c api.Config, number, length uint32) bool {
	return length <= uint32(c.Bits) && number < 1<<length
}

// isValue says it of keys and hops as well: all end at one limit.
func isValue(n uint32) bool {
	return n <= api.MaxValue
}

// isWho says it of what is done as well, and lets both be 0, which stands for anybody and anything.
func isWho(n uint32) bool {
	return n <= api.MaxWho
}

// names is how many numbers a name could have, the 0 of none among them.
const names = api.MaxWho + 1

// isPath takes the first two names out of a: neither goes beyond MaxWho, as a has no bits for more.
func isPath(a, third uint32) bool {
	first, second := a%names, a/names
	if second == 0 && third != 0 {
		return false
	}
	return first != 0 && third <= api.MaxWho
}
