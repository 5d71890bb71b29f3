package tests

import (
	"slices"

	"loop.example/concord/impl"
)

// serialByHand does calls that are ok one behind the other.
func serialByHand(p impl.PlnPlan, list []impl.LogDone) ([]impl.ResResult, []int) {
	pots := slices.Clone(p.Start)
	var results []impl.ResResult
	for _, one := range list {
		r, then := doneByHand(p.Acts[one.Call.Act], pots, one.Call.Args)
		results = append(results, r)
		pots = then
	}
	return results, pots
}

func valsByHand(w impl.WldWorld) []int {
	lists := [][]int{w.Clerk.Base}
	for _, s := range w.Sites {
		if s.Round == w.Clerk.Round {
			lists = append(lists, s.Added)
		}
	}
	return sumByHand(lists...)
}

func behindByHand(w impl.WldWorld) []int {
	var list []int
	for at, s := range w.Sites {
		if s.Round != w.Clerk.Round {
			list = append(list, at)
		}
	}
	return list
}

func sameByHand(w impl.WldWorld) bool {
	results, pots := serialByHand(w.Plan, w.Log)
	return sameResults(results, resultsOf(w.Log)) && slices.Equal(pots, valsByHand(w))
}

func resultsOf(list []impl.LogDone) []impl.ResResult {
	var results []impl.ResResult
	for _, one := range list {
		results = append(results, one.Res)
	}
	return results
}

func restByHand(w impl.WldWorld) bool {
	up := w.Clerk.Up
	for _, s := range w.Sites {
		up = up && s.Up
	}
	return up && len(behindByHand(w)) == 0 && len(w.Clerk.Wants) == 0 && busyClients(w) == 0 && len(w.Net) == 0
}

// allUp is what WldCalm turns ahead of all rounds; a clerk that is down has nothing that it could forget.
func allUp(w *impl.WldWorld) {
	w.Clerk.Up = true
	for at := range w.Sites {
		w.Sites[at].Up = true
	}
}

// bringAllByHand tells how many were brought, too.
func bringAllByHand(w impl.WldWorld) (impl.WldWorld, int) {
	many := 0
	for len(w.Net) > 0 && many < impl.CalmMaxBring {
		w = stepByHand(w, event(impl.WldBring, 0))
		many++
	}
	return w, many
}

// calmByHand tells how many were brought, at once at most, and in all.
func calmByHand(w impl.WldWorld, rounds int) (then impl.WldWorld, most, all int) {
	w = turnedWorld(w, allUp)
	bring := func(w impl.WldWorld) impl.WldWorld {
		w, many := bringAllByHand(w)
		most, all = max(most, many), all+many
		return w
	}
	for range rounds {
		w = bring(w)
		for at := range w.Clients {
			w = bring(stepByHand(w, event(impl.WldTry, at)))
		}
		w = bring(stepByHand(w, event(impl.WldTick, 0)))
	}
	return w, most, all
}

// shareOut is a plan in which sites do much alone, in which rounds end now and then, and of which the calls of several sites meet in the same pots: what is taken is taken from what others have added.
func (t *turning) shareOut() impl.PlnPlan {
	arg, minusArg := form(0, 0, 0, 1, 0, 0), form(0, 0, 0, -1, 0, 0)
	acts := [][]impl.ActLine{
		{asking(2, form(1, 0, 0, -1, 0, 0)), adding(0, minusArg), telling(arg)},
		{adding(0, arg), adding(1, form(0, 0, 0, 0, 1, 0))},
		{asking(1, form(1, -1, 0, 0, 0, -5)), adding(1, number(2)), asking(1, form(-1, 0, 0, 0, 0, 20)), stopping()},
		{telling(pot(2)), adding(2, number(1)), asking(1, form(1, 1, 0, 0, 0, 0)), adding(2, arg)},
	}
	p := impl.PlnPlan{Clients: 2 + (t.next(9)+9)%3, Acts: acts[:2+(t.next(9)+9)%3], Start: []int{t.next(60), t.next(60), t.next(9)}}
	for range 2 + (t.next(9)+9)%2 {
		p.Gives = append(p.Gives, 15+t.next(15))
	}
	if t.next(5) > 3 {
		p.Start[0] = impl.PlnMaxStart
	}
	return p
}

// growing is a plan in which pot 1 soon has as much as it may, or as little; so sites and the clerk have calls that come to too much.
func (t *turning) growing() impl.PlnPlan {
	arg, much := form(0, 0, 0, 1, 0, 0), form(2, 0, 0, 0, 0, 0)
	p := impl.PlnPlan{Clients: 3, Acts: [][]impl.ActLine{{adding(1, much)}, {adding(1, arg)}, {telling(arg), adding(1, form(0, 0, 0, 1, 2, 0))}}}
	for range 1 + (t.next(9)+9)%impl.TrtMaxSites {
		p.Gives = append(p.Gives, 3+t.next(2))
	}
	p.Start = []int{impl.PlnMaxStart * (1 - 2*(t.next(1)&1)), 0, 0}
	return p
}

// mixedPlan is one of several kinds.
func (t *turning) mixedPlan() impl.PlnPlan {
	switch t.next(2) {
	case -2:
		return t.growing()
	case -1:
		return t.loosePlan()
	}
	return t.shareOut()
}

// someSharedEvent lets clients call and try, and messages be brought, more often than all else, so that many calls are done.
func (t *turning) someSharedEvent(w impl.WldWorld, crowd, step int) impl.WldEvent {
	client := (t.next(999) + 999) % len(w.Clients)
	switch n := t.next(20); {
	case n < 2 && len(w.Net) > 0:
		return event(impl.WldBring, max(0, t.next(min(2, len(w.Net)-1))))
	case n < -12:
		return event(impl.WldTick, 0)
	case n > 14:
		return t.someEvent(w, crowd)
	case !w.Clients[client].Busy:
		return calling(client, (t.next(999)+999)%len(w.Plan.Acts), t.args()...)
	case n > 12:
		return event(impl.WldDeaf, client)
	}
	return event(impl.WldTry, client)
}

// strolls are walks on which much is done, alone and in rounds.
func strolls(state uint64, many, steps int, show func(before impl.WldWorld, e impl.WldEvent, then impl.WldWorld)) {
	walksBy(state, many, steps, (*turning).mixedPlan, (*turning).someSharedEvent, show)
}

// strolledWorlds are the worlds on strolls, one of so many.
func strolledWorlds(state uint64, many, steps, each int) []impl.WldWorld {
	var list []impl.WldWorld
	at := 0
	strolls(state, many, steps, func(before impl.WldWorld, e impl.WldEvent, then impl.WldWorld) {
		if at++; at%each == 0 {
			list = append(list, then)
		}
	})
	return list
}
