package tests

import (
	"math"
	"slices"
	"testing"

	"loop.example/concord/impl"
)

func checkWorld(t *testing.T, w impl.WldWorld, want bool, why string) {
	t.Helper()
	if impl.WldOk(w) != want {
		t.Errorf("%s: WldOk(%v) is %v", why, w, !want)
	}
}

func TestP14NewWorldsHaveWhatThePlanLaysDown(t *testing.T) {
	for _, p := range okPlans() {
		w := impl.WldNew(p)
		want := impl.WldWorld{Plan: p, Clerk: impl.ClkNew(p), Clients: make([]impl.ConClient, p.Clients)}
		for range p.Gives {
			want.Sites = append(want.Sites, impl.SitNew(p))
		}
		if !sameWorld(w, want) {
			t.Fatalf("WldNew(%v) is %v", p, w)
		}
		checkWorld(t, w, true, "a new one")
	}
	for _, p := range wrongPlans() {
		if w := impl.WldNew(p); !isNoWorld(w) {
			t.Errorf("WldNew(%v) is %v", p, w)
		}
	}
}

func TestWldOkAtTheEnds(t *testing.T) {
	checkWorld(t, stir(), true, "stir")
	for many := range impl.WldMaxNet + 1 {
		checkWorld(t, withNet(stir(), many), true, "so many messages")
	}
	for _, many := range []int{0, 1, 50, impl.WldMaxLog - 1, impl.WldMaxLog} {
		checkWorld(t, withLog(stir(), many), true, "so many calls done")
	}
	for _, one := range okDones() {
		for at := range 3 {
			checkWorld(t, turnedWorld(stir(), func(w *impl.WldWorld) { w.Clients[at] = answered(one.Seq, one.Res) }), true, "a client that was answered")
			if one.Seq < impl.PlnMaxSeq {
				c := waiting(one.Seq, one.Res, call(at, one.Seq+1, 3, impl.ArgMax, -impl.ArgMax))
				checkWorld(t, turnedWorld(stir(), func(w *impl.WldWorld) { w.Clients[at] = c }), true, "a client that waits")
			}
		}
	}
	for _, r := range okResults() {
		checkWorld(t, turnedWorld(stir(), func(w *impl.WldWorld) { w.Log[1].Res = r }), true, "a result in Log")
	}
	for _, one := range []impl.PlnCall{call(2, impl.PlnMaxSeq, 3, 9, -9), call(0, 1, 0, 0, 0), call(1, 7, 2, -9, 9)} {
		checkWorld(t, turnedWorld(stir(), func(w *impl.WldWorld) { w.Log[1].Call = one }), true, "a call in Log")
	}
	bare := turnedWorld(stir(), func(w *impl.WldWorld) {
		w.Net, w.Log, w.Clients[1].Call.Args = []impl.MsgMsg{}, []impl.LogDone{}, []int{}
	})
	checkWorld(t, bare, true, "empty lists in the place of none")
}

func TestWldOkOfManyWorlds(t *testing.T) {
	for _, w := range looseWorlds(110, 60) {
		checkWorld(t, w, true, "a loose one")
	}
}

// What is ok alone must be at the place where it is: sites go by Gives, and clients by their number.
func TestWldOkGoesByThePlaces(t *testing.T) {
	far := func(w *impl.WldWorld) { w.Sites[0].Added = []int{10, 0, 0} }
	checkWorld(t, turnedWorld(stir(), far), true, "site 0 may go 10 far")
	swapped := func(w *impl.WldWorld) { far(w); w.Sites[0], w.Sites[1] = w.Sites[1], w.Sites[0] }
	checkWorld(t, turnedWorld(stir(), swapped), false, "site 1 may not")
	checkWorld(t, turnedWorld(stir(), func(w *impl.WldWorld) { w.Sites[0], w.Sites[1] = w.Sites[1], w.Sites[0] }), true, "both keep to 6")
	checkWorld(t, turnedWorld(stir(), func(w *impl.WldWorld) { w.Clients[0], w.Clients[2] = w.Clients[2], w.Clients[0] }), false, "each with the other one's call")
	checkWorld(t, turnedWorld(stir(), func(w *impl.WldWorld) { w.Clients[0], w.Clients[1] = w.Clients[1], answered(2, result(impl.ResOver)) }), true, "one that does not wait may be anywhere")
}

// wrongWorlds have one thing that is not ok, but for plans.
func wrongWorlds() []impl.WldWorld {
	list := []impl.WldWorld{{}, {Plan: takers()}}
	turned := func(turn func(w *impl.WldWorld)) { list = append(list, turnedWorld(stir(), turn)) }
	for _, c := range wrongSiteCases() {
		if c.at == 0 {
			turned(func(w *impl.WldWorld) { w.Sites[0] = c.s })
		}
	}
	turned(func(w *impl.WldWorld) { w.Sites[1].Added = []int{7, 0, 0} })
	turned(func(w *impl.WldWorld) { w.Sites[1] = impl.SitSite{} })
	for _, c := range wrongClerkCases() {
		turned(func(w *impl.WldWorld) { w.Clerk = c.c })
	}
	for _, c := range wrongClients() {
		for at := range 3 {
			turned(func(w *impl.WldWorld) { w.Clients[at] = c(at) })
		}
	}
	for i, m := range wrongMessages(takers()) {
		turned(func(w *impl.WldWorld) { w.Net[[]int{0, 2, 4}[i%3]] = m })
	}
	for i, one := range append(wrongCalls(), call(3, 1, 0, 0, 0)) {
		turned(func(w *impl.WldWorld) { w.Log[i%3].Call = one })
	}
	for i, r := range wrongResults() {
		turned(func(w *impl.WldWorld) { w.Log[i%3].Res = r })
	}
	return append(list, wrongSizes()...)
}

// wrongSizes have too few of something, or one too many.
func wrongSizes() []impl.WldWorld {
	fine := stir()
	var list []impl.WldWorld
	for _, sites := range [][]impl.SitSite{nil, {}, fine.Sites[:1], fine.Sites[1:], append(slices.Clone(fine.Sites), fine.Sites[1])} {
		list = append(list, turnedWorld(fine, func(w *impl.WldWorld) { w.Sites = sites }))
	}
	for _, clients := range [][]impl.ConClient{nil, {}, fine.Clients[:2], append(slices.Clone(fine.Clients), impl.ConClient{}), make([]impl.ConClient, 500)} {
		list = append(list, turnedWorld(fine, func(w *impl.WldWorld) { w.Clients = clients }))
	}
	list = append(list, withNet(fine, impl.WldMaxNet+1), withNet(fine, 500))
	return append(list, withLog(fine, impl.WldMaxLog+1), withLog(fine, 250))
}

// wrongClients are of any place.
func wrongClients() []func(at int) impl.ConClient {
	var list []func(at int) impl.ConClient
	fine := func(at, seq int) impl.PlnCall { return call(at, seq, 0, 1, 2) }
	some := result(impl.ResDone, 5)
	for _, one := range wrongDones() {
		list = append(list, func(at int) impl.ConClient { return answered(one.Seq, one.Res) })
		if one.Seq >= 0 && one.Seq < impl.PlnMaxSeq {
			list = append(list, func(at int) impl.ConClient { return waiting(one.Seq, one.Res, fine(at, one.Seq+1)) })
		}
	}
	for _, one := range []impl.PlnCall{{Seq: 1}, {Client: 1}, {Client: -1}, {Act: 1}, {Args: []int{0}}, {Args: []int{0, 0}}, {Seq: -1}} {
		list = append(list, func(at int) impl.ConClient { return impl.ConClient{Call: one} })
	}
	for _, args := range wrongArgs() {
		list = append(list, func(at int) impl.ConClient { return waiting(0, impl.ResResult{}, call(at, 1, 0, args...)) })
	}
	for _, act := range wrongSites(len(takers().Acts)) {
		list = append(list, func(at int) impl.ConClient { return waiting(4, some, call(at, 5, act, 0, 0)) })
	}
	for _, client := range []int{-1, 3, 4, math.MaxInt, math.MinInt} {
		list = append(list, func(at int) impl.ConClient { return waiting(4, some, fine(client, 5)) })
	}
	return append(list,
		func(at int) impl.ConClient { return impl.ConClient{Busy: true} },
		func(at int) impl.ConClient { return waiting(4, some, impl.PlnCall{}) },
		func(at int) impl.ConClient { return impl.ConClient{Seq: 4, Res: some, Call: fine(at, 5)} },
		func(at int) impl.ConClient { return impl.ConClient{Call: fine(at, 1)} },
		func(at int) impl.ConClient { return waiting(0, impl.ResResult{}, fine((at+1)%3, 1)) },
		func(at int) impl.ConClient { return waiting(4, some, fine((at+2)%3, 5)) },
		func(at int) impl.ConClient { return waiting(0, impl.ResResult{}, fine(at, 2)) },
		func(at int) impl.ConClient { return waiting(4, some, fine(at, 4)) },
		func(at int) impl.ConClient { return waiting(4, some, fine(at, 3)) },
		func(at int) impl.ConClient { return waiting(4, some, fine(at, 6)) },
		func(at int) impl.ConClient { return waiting(4, some, fine(at, 1)) },
		func(at int) impl.ConClient { return waiting(impl.PlnMaxSeq, some, fine(at, impl.PlnMaxSeq)) },
		func(at int) impl.ConClient { return waiting(impl.PlnMaxSeq, some, fine(at, impl.PlnMaxSeq+1)) },
		func(at int) impl.ConClient { return waiting(impl.PlnMaxSeq, some, fine(at, 1)) })
}

// fittingWorld has as many of all as a plan asks for, as far as it is few.
func fittingWorld(p impl.PlnPlan) impl.WldWorld {
	w := impl.WldWorld{Plan: p, Clerk: fitting(p)}
	w.Clients = make([]impl.ConClient, len(w.Clerk.Done))
	for range p.Gives {
		w.Sites = append(w.Sites, impl.SitSite{Up: true, Base: []int{1, 2, 3}, Added: []int{0, 0, 0}, Done: make([]impl.PlnDone, len(w.Clerk.Done))})
	}
	return w
}

func TestWorldsWithWrongInputs(t *testing.T) {
	checkWorld(t, fittingWorld(takers()), true, "a plan that fits")
	list := wrongWorlds()
	for _, p := range wrongPlans() {
		list = append(list, fittingWorld(p))
	}
	for i, w := range list {
		checkWorld(t, w, false, "not ok")
		for _, kind := range append(worldKinds(), 0, 11) {
			e := impl.WldEvent{Kind: kind, At: i % 3, Args: []int{1, 2}}
			if then := impl.WldStep(w, e); !isNoWorld(then) {
				t.Fatalf("WldStep of %v in %v is %v", e, w, then)
			}
		}
	}
}

// A plan is held to all others, too: what is ok by one need not be by another one.
func TestWldOkAsksThePlan(t *testing.T) {
	fewer := func(p *impl.PlnPlan) { p.Acts = p.Acts[:2] }
	narrower := func(p *impl.PlnPlan) { p.Gives = []int{2, 6} }
	for i, turn := range []func(p *impl.PlnPlan){fewer, narrower} {
		p := takers()
		turn(&p)
		checkWorld(t, turnedWorld(stir(), func(w *impl.WldWorld) { w.Plan = p }), false, []string{"it has not all acts", "site 0 has gone too far"}[i])
	}
}

func TestWldStepByHand(t *testing.T) {
	turned := make([]int, impl.WldClerk+1)
	turn := &turning{state: 111}
	for _, w := range looseWorlds(112, 25) {
		for _, e := range turn.looseEvents(w) {
			got, want := impl.WldStep(w, e), stepByHand(w, e)
			if !sameWorld(got, want) {
				t.Fatalf("WldStep of %v in %v is %v, not %v", e, w, got, want)
			}
			if !sameWorld(got, w) {
				turned[e.Kind]++
			}
		}
	}
	for _, kind := range worldKinds() {
		if turned[kind] < 15 {
			t.Errorf("kind %d turned something %d times alone", kind, turned[kind])
		}
	}
}

func TestWldStepByHandFromWldNewOn(t *testing.T) {
	rounds, did := 0, 0
	walks(113, 18, 300, func(before impl.WldWorld, e impl.WldEvent, then impl.WldWorld) {
		if want := stepByHand(before, e); !sameWorld(then, want) {
			t.Fatalf("WldStep of %v in %v is %v, not %v", e, before, then, want)
		}
		rounds += then.Clerk.Round - before.Clerk.Round
		did += len(then.Log) - len(before.Log)
	})
	if rounds < 30 || did < 100 {
		t.Errorf("only %d rounds, with %d calls done", rounds, did)
	}
}

func TestWldStepOfOtherKinds(t *testing.T) {
	for _, kind := range []int{0, -1, impl.WldClerk + 1, 100, math.MaxInt, math.MinInt} {
		for _, at := range []int{-1, 0, 1, 99} {
			e := impl.WldEvent{Kind: kind, At: at, Args: []int{1, 2}}
			if then := impl.WldStep(stir(), e); !sameWorld(then, stir()) {
				t.Errorf("WldStep of %v is %v", e, then)
			}
		}
	}
}

// Act and Args are of WldCall alone: what they are turns nothing elsewhere.
func TestWldStepAsksWhatAKindHas(t *testing.T) {
	for _, kind := range worldKinds() {
		if kind == impl.WldCall {
			continue
		}
		for at := range 5 {
			e, with := event(kind, at), impl.WldEvent{Kind: kind, At: at, Act: 99, Args: []int{100}}
			if got, want := impl.WldStep(stir(), with), impl.WldStep(stir(), e); !sameWorld(got, want) {
				t.Errorf("WldStep of %v is %v, not %v", with, got, want)
			}
		}
	}
}

// The document's example, as far as it is of the world.
func TestTheExampleOfTheWorld(t *testing.T) {
	p := takers()
	p.Clients, p.Gives, p.Acts = 2, []int{10, 10}, p.Acts[:3]
	w := impl.WldNew(p)
	for _, e := range []impl.WldEvent{
		calling(0, 0, 8, 0), event(impl.WldTry, 0), calling(1, 0, 9, 0), event(impl.WldDeaf, 1), event(impl.WldTry, 1),
		calling(0, 0, 9, 0), event(impl.WldTry, 0), event(impl.WldBring, 0), event(impl.WldTick, 0), event(impl.WldBring, 2),
		event(impl.WldClerk, 0), event(impl.WldClerk, 1), event(impl.WldTry, 0), event(impl.WldBring, 4), event(impl.WldTick, 0),
		event(impl.WldBring, 2), event(impl.WldBring, 2), event(impl.WldBring, 6), event(impl.WldBring, 6), event(impl.WldBring, 6),
		event(impl.WldTry, 0),
	} {
		w = impl.WldStep(w, e)
	}
	want := []impl.LogDone{
		logged(call(0, 1, 0, 8, 0), impl.ResDone, 8),
		logged(call(1, 1, 0, 9, 0), impl.ResDone, 9),
		logged(call(0, 2, 0, 9, 0), impl.ResDone, 9),
	}
	if !sameLog(w.Log, want) || w.Clerk.Round != 1 || !slices.Equal(w.Clerk.Base, []int{4, 0, 0}) {
		t.Errorf("Log is %v, and the clerk %v", w.Log, w.Clerk)
	}
	for at, s := range w.Sites {
		if s.Round != 1 || s.Frozen || !slices.Equal(s.Base, []int{4, 0, 0}) || !slices.Equal(s.Added, []int{0, 0, 0}) {
			t.Errorf("site %d is %v", at, s)
		}
	}
	if !sameClient(w.Clients[0], answered(2, result(impl.ResDone, 9))) || !sameClient(w.Clients[1], answered(1, result(impl.ResDone, 9))) {
		t.Errorf("the clients are %v", w.Clients)
	}
}
