// Package giveup lets a call end at the first thing that is wrong, from however deep inside: by a panic, which the face recovers in a deferred function.
package giveup

import "pleach/api"

// wrong is what a call is given up with.
type wrong struct{ err error }

// With ends the call with an error.
func With(err error) { panic(wrong{err}) }

// At ends the call with what is wrong at a byte.
func At(why api.Errno, at int) { With(&api.Bad{Why: why, At: at}) }

// Must tells what a call answered, or gives up with its error.
func Must[T any](x T, err error) T {
	if err != nil {
		With(err)
	}
	return x
}

// Caught tells with which error the call was given up that ended in the panic x; any other panic is a fault of the program, and goes on.
func Caught(x any) error {
	if w, ok := x.(wrong); ok {
		return w.err
	}
	panic(x)
}
