package cluster

import (
	"pleach/api"
	"pleach/replica"
)

// work does a step of one kind, when it is known that there is a replica s.Who, and tells its answer.
type work func(c *Cluster, s api.Step) api.Answer

// works tells what is done with each kind of step.
func works() map[int]work {
	return map[int]work{
		api.StepBegin:    ofTurn((*replica.Replica).Begin),
		api.StepDo:       ofOpen(do),
		api.StepCommit:   ofHash((*replica.Replica).Commit),
		api.StepAbort:    ofTurn((*replica.Replica).Abort),
		api.StepMerge:    ofHash((*replica.Replica).Merge),
		api.StepRegister: ofTexts((*replica.Replica).Register),
		api.StepMembers:  ofTexts((*replica.Replica).Members),
		api.StepCount:    ofOpen(count),
		api.StepItems:    ofOpen(items),
		api.StepCells:    ofOpen(cells),
		api.StepAt:       ofOpen(at),
		api.StepRoot:     ofHash((*replica.Replica).Root),
		api.StepHeads:    ofList((*replica.Replica).Heads),
		api.StepHeld:     ofList((*replica.Replica).Held),
		api.StepTick:     onLink(ifOpen(tick)),
		api.StepDeliver:  onLink(deliver),
		api.StepDrop:     onLink(drop),
		api.StepTwice:    onLink(twice),
		api.StepSwap:     onLink(swap),
		api.StepFlip:     onLink(flip),
		api.StepClip:     onLink(clip),
		api.StepFuse:     fuse,
		api.StepCrash:    crash,
		api.StepOpen:     open,
		api.StepExport:   ifOpen(export),
		api.StepImport:   ifOpen(load),
		api.StepFiles:    files,
	}
}

// onLink is work on the link from s.Who to s.To, if there is one.
func onLink(w work) work {
	return func(c *Cluster, s api.Step) api.Answer {
		if !c.has(s.To) || s.To == s.Who {
			return bare(api.ErrArg)
		}
		return w(c, s)
	}
}

// ifOpen is work that asks the replica s.Who, if that is open.
func ifOpen(w work) work {
	return func(c *Cluster, s api.Step) api.Answer {
		if c.replica(s.Who) == nil {
			return bare(api.ErrState)
		}
		return w(c, s)
	}
}

// ofOpen is work that asks the replica s.Who, which has to be open, and nothing else.
func ofOpen(ask func(r *replica.Replica, s api.Step) api.Answer) work {
	return ifOpen(func(c *Cluster, s api.Step) api.Answer { return ask(c.replica(s.Who), s) })
}

// ofTurn is work by a call that tells an error's number alone.
func ofTurn(call func(r *replica.Replica) api.Errno) work {
	return ofOpen(func(r *replica.Replica, s api.Step) api.Answer { return bare(call(r)) })
}

// ofHash is work by a call that tells a hash.
func ofHash(call func(r *replica.Replica) (api.Hash, api.Errno)) work {
	return ofOpen(func(r *replica.Replica, s api.Step) api.Answer {
		h, e := call(r)
		return api.Answer{E: e, Hash: h}
	})
}

// ofList is work by a call that tells hashes.
func ofList(call func(r *replica.Replica) ([]api.Hash, api.Errno)) work {
	return ofOpen(func(r *replica.Replica, s api.Step) api.Answer {
		l, e := call(r)
		return api.Answer{E: e, List: l}
	})
}

// ofTexts is work by a call that tells the texts under a key.
func ofTexts(call func(r *replica.Replica, key string) ([]string, api.Errno)) work {
	return ofOpen(func(r *replica.Replica, s api.Step) api.Answer {
		l, e := call(r, s.Key)
		return api.Answer{E: e, Texts: l}
	})
}

// do puts an operation into the transaction that is open; the item at which it is done may be told by its number.
func do(r *replica.Replica, s api.Step) api.Answer {
	o := s.Op
	if s.J == 1 {
		at, e := itemAt(r, o.Key, s.I)
		if e != api.OK {
			return bare(e)
		}
		o.At = at
	}
	return bare(r.Do(o))
}

// itemAt tells the name of an item by its number, from 1 on, in the list under a key; 0: that list's beginning.
func itemAt(r *replica.Replica, key string, i int) (api.Ident, api.Errno) {
	l, e := r.Items(key)
	switch {
	case e != api.OK:
		return api.Ident{}, e
	case i < 0 || i > len(l):
		return api.Ident{}, api.ErrRange
	case i == 0:
		return api.Ident{}, api.OK
	}
	return l[i-1].ID, api.OK
}

// count tells a counter.
func count(r *replica.Replica, s api.Step) api.Answer {
	n, e := r.Count(s.Key)
	return api.Answer{E: e, N: n}
}

// items tells what a list shows.
func items(r *replica.Replica, s api.Step) api.Answer {
	l, e := r.Items(s.Key)
	return api.Answer{E: e, Items: l}
}

// cells tells all cells.
func cells(r *replica.Replica, s api.Step) api.Answer {
	l, e := r.Cells()
	return api.Answer{E: e, Cells: l}
}

// at tells a cell as it was at some heads.
func at(r *replica.Replica, s api.Step) api.Answer {
	x, e := r.At(s.Heads, s.I, s.Key)
	if x.Kind == api.CellNone { // nothing stands there, or it was refused
		return bare(e)
	}
	return api.Answer{E: e, Cells: []api.Cell{x}}
}
