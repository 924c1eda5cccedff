package soup

import "lithophane/api"

// failure is what readers throw at the first error: it ends all loops over the
// string at once, however deep they are.
type failure struct {
	place int
	kind  api.Errno
}

// throw throws a failure, unless there is no error.
func throw(place int, kind api.Errno) {
	if kind != api.OK {
		panic(failure{place, kind})
	}
}

// require throws a failure, unless the condition holds.
func require(condition bool, place int, kind api.Errno) {
	if !condition {
		throw(place, kind)
	}
}

// catch returns what read returns, or the failure that it throws; nothing else
// is thrown.
func catch(read func() []api.Poly) (polys []api.Poly, place int, kind api.Errno) {
	defer func() {
		if thrown, ok := recover().(failure); ok {
			place, kind = thrown.place, thrown.kind
		}
	}()
	return read(), 0, api.OK
}
