package field

import "fumarole/api"

// place is where a block is.
type place struct{ x, y, z int }

// CheckField returns ErrArg if the field is not valid.
func CheckField(f Field) api.Errno {
	if !f.valid() {
		return api.ErrArg
	}
	return api.OK
}

// Number returns the number of the block at a place.
func Number(f Field, x, y, z int) (int, api.Errno) {
	if e := CheckField(f); e != api.OK {
		return 0, e
	}
	p := place{x, y, z}
	if !f.has(p) {
		return 0, api.ErrRange
	}
	return f.number(p), api.OK
}

// Place returns where the block of a number is.
func Place(f Field, block int) (x, y, z int, e api.Errno) {
	if e := CheckField(f); e != api.OK {
		return 0, 0, 0, e
	}
	if !within(block, 0, f.size()-1) {
		return 0, 0, 0, api.ErrRange
	}
	p := f.place(block)
	return p.x, p.y, p.z, api.OK
}

// valid examines the sides first: their product overflows if they are not within their limits.
func (f Field) valid() bool {
	return within(f.X, 1, api.MaxSides) &&
		within(f.Y, 1, api.MaxSides) &&
		within(f.Z, 1, api.MaxSides) &&
		f.size() <= api.MaxBlocks &&
		within(f.Kinds, 1, api.MaxKinds)
}

// size returns how many blocks the field has.
func (f Field) size() int { return f.X * f.Y * f.Z }

func (f Field) has(p place) bool {
	return within(p.x, 0, f.X-1) && within(p.y, 0, f.Y-1) && within(p.z, 0, f.Z-1)
}

func (f Field) isKind(kind int) bool { return within(kind, 0, f.Kinds-1) }

func (f Field) number(p place) int { return (p.z*f.Y+p.y)*f.X + p.x }

func (f Field) place(block int) place {
	return place{block % f.X, block / f.X % f.Y, block / f.X / f.Y}
}
