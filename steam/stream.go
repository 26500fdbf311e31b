package steam

import "fumarole/api"

// CheckStream returns ErrArg if the stream is not valid.
func CheckStream(s Stream) api.Errno {
	if !s.valid() {
		return api.ErrArg
	}
	return api.OK
}

// Mix returns the sum of the streams.
func Mix(l []Stream) (Stream, api.Errno) {
	if e := checkStreams(l); e != api.OK {
		return Stream{}, e
	}
	mixed := sum(l...)
	if mixed.Mass > api.MaxMass || mixed.Gas > api.MaxGas {
		return Stream{}, api.ErrLimit
	}
	return mixed, api.OK
}

// Heated returns the stream with so many kilojoules more.
func Heated(s Stream, kilojoules int) (Stream, api.Errno) {
	if e := CheckStream(s); e != api.OK {
		return Stream{}, e
	}
	// The heat is not added before it is known to fit, as any number may be given.
	if !within(kilojoules, -s.Heat, s.room()) {
		return Stream{}, api.ErrRange
	}
	s.Heat += kilojoules
	return s, api.OK
}

// Exchange returns both streams after so many kilojoules went from the first one to the second one.
func Exchange(from, to Stream, kilojoules int) (a, b Stream, e api.Errno) {
	if e := CheckStream(from); e != api.OK {
		return Stream{}, Stream{}, e
	}
	if e := CheckStream(to); e != api.OK {
		return Stream{}, Stream{}, e
	}
	if !within(kilojoules, 0, min(from.Heat, to.room())) {
		return Stream{}, Stream{}, api.ErrRange
	}
	from.Heat -= kilojoules
	to.Heat += kilojoules
	return from, to, api.OK
}

// checkStreams returns the errors of a list of streams.
func checkStreams(l []Stream) api.Errno {
	if len(l) > api.MaxStreams {
		return api.ErrLimit
	}
	if !every(l, Stream.valid) {
		return api.ErrArg
	}
	return api.OK
}

// valid examines the mass first: the products with it overflow if it is not within its limit.
func (s Stream) valid() bool {
	return within(s.Mass, 0, api.MaxMass) &&
		within(s.Heat, 0, api.MaxEnthalpy*s.Mass) &&
		within(s.Silica, 0, api.MaxGrain*s.Mass) &&
		within(s.Gas, 0, api.MaxGas)
}

// room returns how much heat the stream can still take.
func (s Stream) room() int { return api.MaxEnthalpy*s.Mass - s.Heat }

// numbers returns where the numbers of the stream are, so that what holds for all of them is written once.
func (s *Stream) numbers() [4]*int {
	return [4]*int{&s.Mass, &s.Heat, &s.Silica, &s.Gas}
}

// sum returns the stream that has the sums of all numbers.
func sum(l ...Stream) Stream {
	var total Stream
	add := func(s Stream) {
		into := total.numbers()
		for i, n := range s.numbers() {
			*into[i] += *n
		}
	}
	for _, s := range l {
		add(s)
	}
	return total
}
