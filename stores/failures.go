package stores

import (
	"errors"
	"strconv"

	"caisson/api"
)

// code is an error of package api as a value of type error.
type code api.Errno

func (c code) Error() string { return "error " + strconv.Itoa(int(c)) }

// failure is the error of a step.
type failure struct {
	step string
	code code
}

func (f failure) Error() string { return f.step + ": " + f.code.Error() }

func (f failure) Unwrap() error { return f.code }

// step is a part of an operation, with a name for the failure that it may end with.
type step struct {
	name string
	act  func() api.Errno
}

// carryOut carries out steps, one after another, up to the first one that has an error, and returns its failure.
func carryOut(steps ...step) error {
	for _, x := range steps {
		if e := x.act(); e != api.OK {
			return failure{x.name, code(e)}
		}
	}
	return nil
}

// errnoOf returns the error of package api that a failure stands for, or OK if there is none.
func errnoOf(err error) api.Errno {
	var f failure
	if !errors.As(err, &f) {
		return api.OK
	}
	return api.Errno(f.code)
}
