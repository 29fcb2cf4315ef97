package giveup_test

import (
	"errors"
	"testing"

	"pleach/api"
	"pleach/giveup"
)

// face runs work as a reader's face does.
func face(work func() int) (n int, err error) {
	defer func() {
		if x := recover(); x != nil {
			n, err = 0, giveup.Caught(x)
		}
	}()
	return work(), nil
}

// deep runs work many calls deep inside.
func deep(n int, work func() int) int {
	if n == 0 {
		return work()
	}
	return deep(n-1, work) + 1
}

// R2: the error with which reading was given up is told, the very same; nothing else is.
func TestGivenUp(t *testing.T) {
	bad := &api.Bad{Why: api.ErrShort, At: 7}
	for _, err := range []error{bad, api.ErrBytes, errors.New("other")} {
		n, got := face(func() int {
			return deep(50, func() int { giveup.With(err); return 1 })
		})
		if n != 0 || got != err {
			t.Errorf("With(%v): %d, %v", err, n, got)
		}
		n, got = face(func() int {
			return deep(50, func() int { return giveup.Must(3, err) })
		})
		if n != 0 || got != err {
			t.Errorf("Must(3, %v): %d, %v", err, n, got)
		}
	}
	n, got := face(func() int { giveup.At(api.ErrOrder, 34); return 1 })
	told, ok := got.(*api.Bad)
	if n != 0 || !ok || *told != (api.Bad{Why: api.ErrOrder, At: 34}) {
		t.Errorf("At(ErrOrder, 34): %d, %v", n, got)
	}
}

// Where nothing is wrong, what was read is told.
func TestNotGivenUp(t *testing.T) {
	n, err := face(func() int {
		return deep(50, func() int { return giveup.Must(3, nil) })
	})
	if n != 53 || err != nil {
		t.Errorf("Must(3, nil): %d, %v", n, err)
	}
}

// A fault of the program is not taken for an error of what is read.
func TestOtherPanics(t *testing.T) {
	for _, fault := range []any{"a fault", errors.New("a fault"), error(api.ErrShort), &api.Bad{Why: api.ErrShort}} {
		got := func() (x any) {
			defer func() { x = recover() }()
			face(func() int { panic(fault) })
			return nil
		}()
		if got != fault {
			t.Errorf("a panic of %v came out as %v", fault, got)
		}
	}
}
