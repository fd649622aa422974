package merkles

import (
	"errors"
	"strconv"

	"caisson/api"
	"caisson/shapes"
)

// fault is an error of package api as a value of type error.
type fault api.Errno

func (f fault) Error() string { return "error " + strconv.Itoa(int(f)) }

// wrong is a fault of a node, with the place where the node is to stand.
type wrong struct {
	place shapes.Place
	fault error
}

func (w wrong) Error() string {
	return w.fault.Error() + " at level " + strconv.Itoa(w.place.Level) + ", index " + strconv.Itoa(w.place.Index)
}

func (w wrong) Unwrap() error { return w.fault }

// errnoOf returns the error that a fault is, or OK if there is none.
func errnoOf(err error) api.Errno {
	var f fault
	if errors.As(err, &f) {
		return api.Errno(f)
	}
	return api.OK
}
