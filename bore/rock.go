package bore

import "fumarole/api"

// CheckRock returns ErrArg if the rock is not valid.
func CheckRock(rock []Layer) api.Errno {
	if !within(len(rock), 1, api.MaxLayers) || !every(rock, Layer.valid) || !isRising(depths(rock)) {
		return api.ErrArg
	}
	return api.OK
}

// Mud returns the window of the section from a to b.
func Mud(rock []Layer, a, b int) (Range, api.Errno) {
	if e := CheckRock(rock); e != api.OK {
		return Range{}, e
	}
	if a < 0 || a >= b || b > len(rock) {
		return Range{}, api.ErrRange
	}
	held, ok := window(rock[a:b])
	if !ok {
		return Range{}, api.ErrNone
	}
	return held, api.OK
}

// Losses returns what the section from a to b loses of the mud.
func Losses(rock []Layer, a, b, mud int) (int, api.Errno) {
	held, e := Mud(rock, a, b)
	if e != api.OK {
		return 0, e
	}
	if !within(mud, held.Lo, held.Hi) {
		return 0, api.ErrFail
	}
	tops := append([]int{0}, depths(rock)...)
	losses := 0
	for i := a; i < b; i++ {
		losses += max(0, mud-rock[i].Leak) * (rock[i].Depth - tops[i])
	}
	return losses, api.OK
}

// window returns the range of all muds that hold in all of the layers, and whether there are any.
func window(layers []Layer) (Range, bool) {
	w := Range{0, api.MaxDensity}
	for _, l := range layers {
		w.Lo, w.Hi = max(w.Lo, l.Pore.Hi), min(w.Hi, l.Frac.Lo)
	}
	return w, w.Lo <= w.Hi
}

// depths returns where each layer ends.
func depths(rock []Layer) []int {
	var depths []int
	for _, l := range rock {
		depths = append(depths, l.Depth)
	}
	return depths
}

func (l Layer) valid() bool {
	return within(l.Depth, 1, api.MaxDepth) && l.Pore.valid() && l.Frac.valid() && isDensity(l.Leak)
}

func (r Range) valid() bool { return isDensity(r.Lo) && isDensity(r.Hi) && r.Lo <= r.Hi }

func isDensity(n int) bool { return within(n, 0, api.MaxDensity) }
