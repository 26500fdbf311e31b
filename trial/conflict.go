package trial

import "fumarole/api"

// Blame returns the first step with which, and with those before it, no curve agrees.
func Blame(t Test) (int, api.Errno) {
	if e := CheckTest(t); e != api.OK {
		return 0, e
	}
	for i := range t.Steps {
		part := t
		part.Steps = t.Steps[:i+1]
		if len(part.families()) == 0 {
			return i, api.OK
		}
	}
	return 0, api.ErrNone
}

// Conflicts returns the first conflict for each B and C.
func Conflicts(t Test) ([][2]int, api.Errno) {
	if e := CheckTest(t); e != api.OK {
		return nil, e
	}
	var l [][2]int
all:
	for _, rooms := range t.rooms() {
		for i := range rooms {
			for j := range rooms {
				if rooms[i].isAbove(rooms[j]) {
					l = append(l, [2]int{i - 1, j - 1}) // the room of the box comes first
					continue all
				}
			}
		}
		return nil, api.ErrNone // ranges of which no two are apart have a number in common
	}
	return l, api.OK
}

// ProveNone returns whether the test is valid, and the list shows that no curve agrees with it.
func ProveNone(t Test, l [][2]int) bool {
	if CheckTest(t) != api.OK || len(l) != t.B.count()*t.C.count() {
		return false
	}
	for _, rooms := range t.rooms() {
		if !isConflict(rooms, l[0]) {
			return false
		}
		l = l[1:]
	}
	return true
}

// isConflict returns whether both numbers have rooms, and these are a conflict.
func isConflict(rooms []Range, pair [2]int) bool {
	for _, n := range pair {
		if !within(n, -1, len(rooms)-2) {
			return false
		}
	}
	return rooms[pair[0]+1].isAbove(rooms[pair[1]+1])
}

// isAbove returns whether all of the range is above all of the other one.
func (r Range) isAbove(other Range) bool { return r.Lo > other.Hi }
