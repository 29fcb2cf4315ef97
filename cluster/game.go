package cluster

import (
	"sync"

	"pleach/api"
)

// players is how many games are played at one time.
const players = 8

// Game is a cluster's making, and a script.
type Game struct {
	N, Room int
	Key     []byte
	Script  []api.Step
}

// Run does a script in a new cluster.
func Run(g Game) ([]api.Answer, api.Errno) {
	c, e := New(g.N, g.Room, g.Key)
	switch {
	case e != api.OK:
		return nil, e
	case len(g.Script) > api.MaxSteps:
		return nil, api.ErrMany
	}
	l := []api.Answer{}
	for _, s := range g.Script {
		l = append(l, c.Do(s))
	}
	return l, api.OK
}

// Play does several games at one time.
func Play(l []Game) ([][]api.Answer, []api.Errno) {
	answers, errs := make([][]api.Answer, len(l)), make([]api.Errno, len(l))
	var all sync.WaitGroup
	for player := range min(players, len(l)) {
		all.Go(func() {
			for i := player; i < len(l); i += players { // each game is one player's, and so are its places
				answers[i], errs[i] = Run(l[i])
			}
		})
	}
	all.Wait()
	return answers, errs
}
