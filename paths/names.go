package paths

import "bascule/api"

// many is how many numbers a name may be, with 0: a key is its names, each behind so many times those ahead of it.
const many = api.MaxWho + 1

// names are a path's, the first one first; 0: it has none there.
type names [api.MaxDepth]uint64

func namesOf(key uint64) names {
	return names{key / many / many, key / many % many, key % many}
}

// named are the names of an operation's path, of which the first two stand in one number.
func named(o api.Op) names {
	return names{uint64(o.A) % many, uint64(o.A) / many, uint64(o.B)}
}

func keyOf(path names) uint64 {
	key := uint64(0)
	for _, name := range path {
		key = key*many + name
	}
	return key
}

// isPath holds every name against the greatest: the first one of a key beyond all paths is beyond it.
func isPath(path names) bool {
	over := false
	for _, name := range path {
		if name > api.MaxWho || over && name != 0 {
			return false
		}
		over = name == 0
	}
	return path[0] != 0
}

// parentOf is the key of a path without its last name; 0, which is no path's, where none is left.
func parentOf(key uint64) uint64 {
	path, last := namesOf(key), 0
	for i, name := range path {
		if name != 0 {
			last = i
		}
	}
	path[last] = 0
	return keyOf(path)
}
