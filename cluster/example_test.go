package cluster_test

import (
	"testing"

	"pleach/api"
)

// P23.1: the chapter's first example: two that talk with one another.
func TestExampleTalk(t *testing.T) {
	c := made(t, 2, 100000)
	a := child(1, []api.Op{incr("n", 5)})
	wants(t, c, of(api.StepBegin, 1), errs(api.OK))
	wants(t, c, does(1, incr("n", 5)), errs(api.OK))
	wants(t, c, of(api.StepCommit, 1), api.Answer{Hash: hashOf(a)})
	wants(t, c, under(api.StepCount, 1, "n"), number(5))
	wants(t, c, under(api.StepCount, 2, "n"), number(0))
	wants(t, c, tick(1, 2), number(helloSize(1, a)))
	wants(t, c, deliver(1, 2), number(1))
	wants(t, c, deliver(2, 1), number(1))
	wants(t, c, deliver(1, 2), list(hashOf(a)))
	wants(t, c, under(api.StepCount, 2, "n"), number(5))
	wants(t, c, deliver(1, 2), errs(api.ErrAbsent))
	wants(t, c, deliver(2, 1), errs(api.ErrAbsent))
}

// P23.1: the chapter's second example: the power goes, and comes again.
func TestExamplePower(t *testing.T) {
	c := made(t, 2, 100000)
	a := commit(t, c, 1, []api.Op{incr("n", 5)})
	wants(t, c, fuse(1, 1), errs(api.OK))
	wants(t, c, of(api.StepBegin, 1), errs(api.OK))
	wants(t, c, does(1, incr("n", 1)), errs(api.OK))
	wants(t, c, of(api.StepCommit, 1), errs(api.ErrPower))
	wants(t, c, under(api.StepCount, 1, "n"), errs(api.ErrPower))
	wants(t, c, crash(1), errs(api.OK))
	wants(t, c, under(api.StepCount, 1, "n"), errs(api.ErrState))
	wants(t, c, of(api.StepOpen, 1), list(hashOf(a)))
	wants(t, c, under(api.StepCount, 1, "n"), number(5))
}

// P23.1: the chapter's third example: an item at the beginning of a list that has others.
func TestExampleList(t *testing.T) {
	c := made(t, 2, 100000)
	a := commit(t, c, 1, []api.Op{insert("l", "y")})
	do(t, c, of(api.StepBegin, 1))
	wants(t, c, doesAt(1, 0, insert("l", "x")), errs(api.OK))
	b := child(1, []api.Op{insert("l", "x")}, a)
	wants(t, c, of(api.StepCommit, 1), api.Answer{Hash: hashOf(b)})
	x := api.Item{ID: api.Ident{Node: hashOf(b), Op: 1}, Text: "x"}
	y := api.Item{ID: api.Ident{Node: hashOf(a), Op: 1}, Text: "y"}
	wants(t, c, under(api.StepItems, 1, "l"), api.Answer{Items: []api.Item{x, y}})
}

// P23.1: the chapter's fourth example: steps that may not be.
func TestExampleRefused(t *testing.T) {
	c := made(t, 2, 100000)
	wants(t, c, of(0, 1), errs(api.ErrKind))
	wants(t, c, under(api.StepCount, 3, "n"), errs(api.ErrArg))
	wants(t, c, tick(1, 1), errs(api.ErrArg))
}
