package tests

import (
	"fmt"
	"math"
	"slices"
	"testing"

	"loop.example/concord/impl"
)

// eightRounds is a world that at most 200 steps have led to, and what eight calm rounds make of it.
type eightRounds struct{ w, calm impl.WldWorld }

// manyEightRounds are of worlds at all ages up to 200 steps.
func manyEightRounds(state uint64) []eightRounds {
	worlds := strolledWorlds(state, 18, 200, 40)
	step := 0
	walks(state, 9, 200, func(before impl.WldWorld, e impl.WldEvent, then impl.WldWorld) {
		if step++; step%50 == 0 {
			worlds = append(worlds, then)
		}
	})
	var list []eightRounds
	for _, w := range worlds {
		list = append(list, eightRounds{w, impl.WldCalm(w, 8)})
	}
	return list
}

func TestP8BehindEightCalmRoundsAllIsAnswered(t *testing.T) {
	t.Parallel()
	restless, waited := 0, 0
	for _, one := range manyEightRounds(220) {
		if !impl.WldRest(one.calm) || !restByHand(one.calm) || !impl.SerSame(one.calm) || !sameByHand(one.calm) {
			t.Fatalf("behind eight rounds %v is %v", one.w, one.calm)
		}
		if !restByHand(one.w) {
			restless++
		}
		waited += busyClients(one.w)
	}
	if restless < 80 || waited < 80 {
		t.Errorf("only %d were not at rest, and %d calls waited", restless, waited)
	}
}

func TestP9WhatWasAskedIsDone(t *testing.T) {
	t.Parallel()
	did, were := 0, 0
	for _, one := range manyEightRounds(221) {
		want := turnedWorld(one.w, func(w *impl.WldWorld) {})
		if len(one.calm.Log) < len(one.w.Log) || !sameLog(one.calm.Log[:len(one.w.Log)], one.w.Log) {
			t.Fatalf("behind eight rounds Log of %v is %v", one.w, one.calm.Log)
		}
		for at, client := range one.w.Clients {
			if !client.Busy {
				continue
			}
			same := func(done impl.LogDone) bool { return sameCall(done.Call, client.Call) }
			found := slices.DeleteFunc(slices.Clone(one.calm.Log), func(done impl.LogDone) bool { return !same(done) })
			if len(found) != 1 {
				t.Fatalf("behind eight rounds %v was done %d times in %v", client.Call, len(found), one.calm)
			}
			want.Clients[at] = answered(client.Call.Seq, found[0].Res)
			if slices.ContainsFunc(one.w.Log, same) {
				were++
			} else {
				did++
			}
		}
		if !slices.EqualFunc(one.calm.Clients, want.Clients, sameClient) {
			t.Fatalf("behind eight rounds the clients of %v are %v", one.w, one.calm.Clients)
		}
		for _, done := range one.calm.Log[len(one.w.Log):] {
			if client := one.w.Clients[done.Call.Client]; !client.Busy || !sameCall(client.Call, done.Call) {
				t.Fatalf("behind eight rounds of %v nobody waited for %v", one.w, done)
			}
		}
	}
	if did < 60 || were < 10 {
		t.Errorf("only %d were done, and %d were done already", did, were)
	}
}

func TestP10WhoIsAtRestStaysSo(t *testing.T) {
	t.Parallel()
	for _, one := range manyEightRounds(222) {
		for _, rounds := range []int{1, 2} {
			then := impl.WldCalm(one.calm, rounds)
			if !sameWorld(then, one.calm) || !slices.Equal(impl.WldVals(then), impl.WldVals(one.calm)) {
				t.Fatalf("behind %d rounds more %v is %v", rounds, one.calm, then)
			}
		}
	}
}

func TestP12BehindACalmAllAreInOneRound(t *testing.T) {
	t.Parallel()
	for _, one := range manyEightRounds(223) {
		w := one.calm
		for at, s := range w.Sites {
			if s.Round != w.Clerk.Round || !slices.Equal(s.Base, w.Clerk.Base) {
				t.Fatalf("site %d is %v, and the clerk %v", at, s, w.Clerk)
			}
		}
		for at, client := range w.Clients {
			if last := w.Sites[at%len(w.Sites)].Done[at]; last.Seq != client.Seq || !sameResult(last.Res, client.Res) {
				t.Fatalf("client %d is %v, and its home has done %v", at, client, last)
			}
		}
		if list := impl.WldBehind(w); len(list) > 0 {
			t.Fatalf("behind are %v of %v", list, w)
		}
	}
}

// calmWorlds are loose ones, such as come from WldNew, and ones with edges in them.
func calmWorlds(state uint64) []impl.WldWorld {
	last := turnedWorld(stir(), func(w *impl.WldWorld) {
		w.Clerk.Round, w.Sites[0].Round, w.Sites[1].Round = impl.PlnMaxRound, impl.PlnMaxRound, impl.PlnMaxRound
	})
	list := append(looseWorlds(state, 12), strolledWorlds(state, 6, 200, 40)...)
	return append(list, stir(), last, withNet(stir(), 0), withNet(stir(), impl.WldMaxNet), withLog(stir(), impl.WldMaxLog), crowdedWorld(), impl.WldNew(takers()))
}

// crowdedWorld has in Net what leads to as many messages as could be found: nearly all let a site say something, and two rounds end, at the first of which there is not room for all that the clerk says. Only behind the last messages sites can do alone what the clients ask.
func crowdedWorld() impl.WldWorld {
	p := takers()
	p.Gives = []int{10, 6, 3}
	w := impl.WldNew(p)
	base := w.Clerk.Base
	for at := range w.Sites {
		w.Clerk.Got[at] = told([]int{0, 0, 0}, 0, 0, 0)
		w.Sites[at].Round = min(1, at)
	}
	w.Net = []impl.MsgMsg{freezes(0, 0), agrees(0, 1, base, make([]impl.PlnDone, 3)...)}
	for len(w.Net) < impl.WldMaxNet {
		w.Net = append(w.Net, freezes(len(w.Net)%3, 1))
	}
	for at := range w.Clients {
		w.Clients[at] = waiting(0, impl.ResResult{}, call(at, 1, 1, 2, 0))
	}
	return w
}

func TestP11WldCalmByHand(t *testing.T) {
	t.Parallel()
	many := 0
	for i, w := range calmWorlds(224) {
		for _, rounds := range []int{1, 2 + i%(impl.CalmMaxRounds-1)} {
			want, _, all := calmByHand(w, rounds)
			if then := impl.WldCalm(w, rounds); !sameWorld(then, want) {
				t.Fatalf("WldCalm of %d in %v is %v, not %v", rounds, w, then, want)
			}
			many = max(many, all)
		}
	}
	if many <= impl.CalmMaxBring {
		t.Errorf("only %d messages were brought in all", many)
	}
}

// What is brought at once is never so much that CalmMaxBring were too few: a message that freezes leads to one that tells, and as many of these as there are sites to as many that agree anew, at which it ends. In a whole calm more is brought.
func TestP11WhereMuchIsBrought(t *testing.T) {
	w := crowdedWorld()
	checkWorld(t, w, true, "crowded")
	if brought, many := bringAllByHand(w); many != 64 || len(brought.Net) > 0 || brought.Clerk.Round != 2 {
		t.Errorf("%d were brought, and it is %v", many, brought)
	}
	for _, w := range calmWorlds(225) {
		if _, most, _ := calmByHand(w, 3); most > 64 {
			t.Errorf("in %v %d were brought at once", w, most)
		}
	}
	want, _, all := calmByHand(w, impl.CalmMaxRounds)
	if then := impl.WldCalm(w, impl.CalmMaxRounds); !sameWorld(then, want) || all <= impl.CalmMaxBring {
		t.Errorf("with %d brought in all WldCalm is %v, not %v", all, then, want)
	}
}

// All that is brought first is brought ahead of the first try, however much it is.
func TestP11MuchIsBroughtAheadOfATry(t *testing.T) {
	w := impl.WldCalm(crowdedWorld(), 1)
	for at, done := range w.Log {
		if !sameLogged(done, logged(call(at, 1, 1, 2, 0), impl.ResDone)) {
			t.Errorf("of %d it is %v", at, done)
		}
	}
	if len(w.Log) != 3 || w.Clerk.Round != 2 || !impl.WldRest(w) {
		t.Errorf("it is %v", w)
	}
}

// The last of as many messages as may be is brought, too.
func TestP11TheLastOfManyMessages(t *testing.T) {
	w := withNet(impl.WldNew(takers()), impl.WldMaxNet)
	for _, at := range []int{0, 14, impl.WldMaxNet - 1} {
		one := turnedWorld(w, func(w *impl.WldWorld) { w.Net[at] = agrees(1, 9, []int{1, 2, 3}, make([]impl.PlnDone, 3)...) })
		then := impl.WldCalm(one, 1)
		if want, _, _ := calmByHand(one, 1); !sameWorld(then, want) || then.Sites[1].Round != 9 {
			t.Errorf("with the message at %d it is %v, not %v", at, then, want)
		}
	}
}

func TestP11OneRoundBehindOthers(t *testing.T) {
	t.Parallel()
	for i, w := range calmWorlds(226) {
		for _, n := range []int{1, 2 + i%(impl.CalmMaxRounds-2), impl.CalmMaxRounds - 1} {
			then, want := impl.WldCalm(impl.WldCalm(w, n), 1), impl.WldCalm(w, n+1)
			if !sameWorld(then, want) || !impl.WldOk(then) {
				t.Fatalf("behind %d rounds and one %v is %v, not %v", n, w, then, want)
			}
		}
	}
}

func TestP11WithoutRoundsAllAreUp(t *testing.T) {
	t.Parallel()
	fallen := 0
	for _, w := range append(calmWorlds(227), looseWorlds(228, 30)...) {
		want := turnedWorld(w, allUp)
		for _, n := range []int{0, -1, -8, math.MinInt} {
			if then := impl.WldCalm(w, n); !sameWorld(then, want) {
				t.Fatalf("WldCalm of %d in %v is %v", n, w, then)
			}
		}
		if !sameWorld(w, want) {
			fallen++
		}
	}
	if fallen < 20 {
		t.Errorf("only in %d somebody was down", fallen)
	}
}

func TestP11TooManyRounds(t *testing.T) {
	for _, w := range []impl.WldWorld{stir(), impl.WldNew(takers()), crowdedWorld()} {
		for _, n := range []int{impl.CalmMaxRounds + 1, 100, math.MaxInt} {
			if then := impl.WldCalm(w, n); !isNoWorld(then) {
				t.Errorf("WldCalm of %d is %v", n, then)
			}
		}
		if then := impl.WldCalm(w, impl.CalmMaxRounds); !impl.WldOk(then) {
			t.Errorf("WldCalm of %d is %v", impl.CalmMaxRounds, then)
		}
	}
}

// orderly is a world in which the order of what happens in a calm round is to be seen: client 0 waits for a round, client 1 has a call that its site can do alone as long as it is not frozen.
func orderly() impl.WldWorld {
	return impl.WldRun(impl.WldNew(takers()), []impl.WldEvent{calling(0, 2, 0, 0), calling(1, 0, 4, 0), calling(2, 0, 4, 0)})
}

// A round tries all clients in order, and what was asked for is brought behind each; the tick ends it, and all that it says is brought.
func TestP11TheOrderOfARound(t *testing.T) {
	asks, takes1, takes2 := call(0, 1, 2, 0, 0), call(1, 1, 0, 4, 0), call(2, 1, 0, 4, 0)
	alone := []impl.LogDone{logged(takes1, impl.ResDone, 4), logged(takes2, impl.ResDone, 4)}
	w := impl.WldCalm(orderly(), 1)
	if want := append(alone, logged(asks, impl.ResDone, 0)); !sameLog(w.Log, want) || w.Clerk.Round != 1 || len(w.Net) > 0 || busyClients(w) != 1 {
		t.Errorf("behind one round it is %v", w)
	}
	if w = impl.WldCalm(w, 1); busyClients(w) != 0 || !impl.WldRest(w) || w.Clerk.Round != 1 {
		t.Errorf("behind two rounds it is %v", w)
	}
}

// What is on its way is brought ahead of the first try: a site that is frozen by that can do nothing alone.
func TestP11ARoundBringsAllFirst(t *testing.T) {
	start := orderly()
	frozen := turnedWorld(start, sends(freezes(1, 0)))
	w := impl.WldCalm(frozen, 1)
	want := []impl.LogDone{logged(call(2, 1, 0, 4, 0), impl.ResDone, 4), logged(call(0, 1, 2, 0, 0), impl.ResDone, 0), logged(call(1, 1, 0, 4, 0), impl.ResDone, 4)}
	if !sameLog(w.Log, want) {
		t.Errorf("with a site that is frozen first it is %v", w.Log)
	}
	// Here all that is on its way ends a round ahead of the first try.
	ready := turnedWorld(start, func(w *impl.WldWorld) { w.Clerk.Got[0] = told([]int{0, 0, 0}, 0, 0, 0); w.Sites[0].Frozen = true })
	ready = turnedWorld(ready, sends(wants(call(0, 1, 2, 0, 0)), freezes(1, 0)))
	w = impl.WldCalm(ready, 1)
	want = []impl.LogDone{logged(call(0, 1, 2, 0, 0), impl.ResDone, 0), logged(call(1, 1, 0, 4, 0), impl.ResDone, 4), logged(call(2, 1, 0, 4, 0), impl.ResDone, 4)}
	if !sameLog(w.Log, want) || busyClients(w) != 0 || w.Clerk.Round != 1 {
		t.Errorf("with a round that ends first it is %v", w)
	}
}

// As all is brought ahead of the first try, and behind each, there is room for what each client asks, however much was on its way.
func TestP11EachTryHasRoom(t *testing.T) {
	p := takers()
	p.Clients = impl.PlnMaxClients
	w := impl.WldNew(p)
	for at := range w.Clients {
		w = impl.WldStep(w, calling(at, 2, 0, 0))
	}
	w = impl.WldCalm(withNet(w, impl.WldMaxNet), 1)
	if len(w.Log) != impl.PlnMaxClients || w.Clerk.Round != 1 || len(w.Net) > 0 {
		t.Errorf("it is %v", w)
	}
	for at, done := range w.Log {
		if !sameLogged(done, logged(call(at, 1, 2, 0, 0), impl.ResDone, at)) {
			t.Errorf("of %d it is %v", at, done)
		}
	}
}

// In its last round the clerk ends none: what waits goes on waiting.
func TestP8NothingEndsInTheLastRound(t *testing.T) {
	w := turnedWorld(orderly(), func(w *impl.WldWorld) {
		w.Clerk.Round, w.Sites[0].Round, w.Sites[1].Round = impl.PlnMaxRound, impl.PlnMaxRound, impl.PlnMaxRound
	})
	then := impl.WldCalm(w, 8)
	if impl.WldRest(then) || len(then.Log) != 2 || busyClients(then) != 1 || then.Clerk.Round != impl.PlnMaxRound || len(then.Net) > 0 || !impl.SerSame(then) {
		t.Errorf("it is %v", then)
	}
	before := turnedWorld(w, func(w *impl.WldWorld) {
		w.Clerk.Round, w.Sites[0].Round, w.Sites[1].Round = impl.PlnMaxRound-1, impl.PlnMaxRound-1, impl.PlnMaxRound-1
	})
	if then := impl.WldCalm(before, 8); !impl.WldRest(then) || then.Clerk.Round != impl.PlnMaxRound || len(then.Log) != 3 {
		t.Errorf("with one round left it is %v", then)
	}
}

// As few sites and clients as may be, and as many.
func TestP8P12TheFewestAndTheMost(t *testing.T) {
	for _, gives := range [][]int{{0}, {50}, {0, 0, 0}, {50, 50, 50}} {
		for _, clients := range []int{1, impl.PlnMaxClients} {
			p := takers()
			p.Clients, p.Gives = clients, gives
			w := impl.WldNew(p)
			for at := range clients {
				w = impl.WldRun(w, []impl.WldEvent{calling(at, at%3, 3, 0), event(impl.WldDeaf, at)})
			}
			w = impl.WldRun(w, []impl.WldEvent{event(impl.WldClerk, 0), event(impl.WldFall, 0), event(impl.WldFall, len(gives)-1)})
			then := impl.WldCalm(w, 8)
			if !impl.WldRest(then) || !impl.SerSame(then) || len(then.Log) != clients {
				t.Errorf("with %v and %d clients it is %v", gives, clients, then)
			}
		}
	}
}

func TestP13RunOfTwoLists(t *testing.T) {
	t.Parallel()
	var events []impl.WldEvent
	var worlds []impl.WldWorld
	const steps = impl.RunMaxEvents
	strolls(230, 12, steps, func(before impl.WldWorld, e impl.WldEvent, then impl.WldWorld) {
		if len(events) == 0 {
			worlds = append(worlds, before)
		}
		events, worlds = append(events, e), append(worlds, then)
		if len(events) < steps {
			return
		}
		for _, at := range []int{0, 1, 77, 200, steps - 1, steps} {
			first := impl.WldRun(worlds[0], events[:at])
			if !sameWorld(first, worlds[at]) {
				t.Fatalf("WldRun of the first %d is %v, and the steps are %v", at, first, worlds[at])
			}
			if second := impl.WldRun(first, events[at:]); !sameWorld(second, worlds[steps]) {
				t.Fatalf("WldRun of those behind %d is %v, and the steps are %v", at, second, worlds[steps])
			}
		}
		events, worlds = nil, nil
	})
}

// Loose worlds, with events that fit and such that do not.
func TestP13RunOfLooseEvents(t *testing.T) {
	turn := &turning{state: 231}
	for _, w := range append(looseWorlds(232, 8), stir()) {
		events := turn.looseEvents(w)
		for at := range events {
			other := (turn.next(999) + 999) % (at + 1)
			events[at], events[other] = events[other], events[at]
		}
		want := w
		for _, e := range events {
			want = stepByHand(want, e)
		}
		if then := impl.WldRun(w, events); !sameWorld(then, want) {
			t.Fatalf("WldRun of %v in %v is %v, not %v", events, w, then, want)
		}
	}
}

func TestP13HowManyEvents(t *testing.T) {
	w := stir()
	for _, many := range []int{0, 1, impl.RunMaxEvents - 1, impl.RunMaxEvents} {
		events := slices.Repeat([]impl.WldEvent{event(impl.WldTwice, 0)}, many)
		want := turnedWorld(w, func(w *impl.WldWorld) {
			for range many {
				sendByHand(w, w.Net[:1])
			}
		})
		if then := impl.WldRun(w, events); !sameWorld(then, want) {
			t.Errorf("WldRun of %d is %v", many, then)
		}
	}
	for _, many := range []int{impl.RunMaxEvents + 1, 5000} {
		if then := impl.WldRun(w, make([]impl.WldEvent, many)); !isNoWorld(then) {
			t.Errorf("WldRun of %d is %v", many, then)
		}
	}
}

// restCase is a world at rest with one thing turned.
type restCase struct {
	name string
	turn func(w *impl.WldWorld)
	want bool
}

func restCases() []restCase {
	list := []restCase{
		{"as it is", func(w *impl.WldWorld) {}, true},
		{"the clerk is down", func(w *impl.WldWorld) { w.Clerk.Up = false }, false},
		{"a call waits at the clerk", func(w *impl.WldWorld) { w.Clerk.Wants = []impl.PlnCall{call(1, 1, 0, 0, 0)} }, false},
		{"the clerk is one round behind", func(w *impl.WldWorld) { w.Clerk.Round-- }, false},
		{"all sites are behind", func(w *impl.WldWorld) { w.Clerk.Round++ }, false},
		{"all are in the last round", func(w *impl.WldWorld) {
			for at := range w.Sites {
				w.Sites[at].Round = impl.PlnMaxRound
			}
			w.Clerk.Round = impl.PlnMaxRound
		}, true},
		{"a message for a site is on its way", sends(freezes(0, 9)), false},
		{"a message for the clerk is on its way", sends(wants(call(1, 1, 0, 0, 0))), false},
		{"one thing is not ok", func(w *impl.WldWorld) { w.Log = append(w.Log, impl.LogDone{}) }, false},
		{"nothing was done", func(w *impl.WldWorld) { w.Log = nil }, true},
		{"a site has told", func(w *impl.WldWorld) { w.Clerk.Got[0] = told([]int{0, 0, 0}, 0, 0, 0, 0) }, true},
		{"the pots are others", func(w *impl.WldWorld) { w.Clerk.Base = []int{7, 7, 7} }, true},
	}
	for at := range 3 {
		list = append(list,
			restCase{"a site is down", func(w *impl.WldWorld) { w.Sites[at].Up = false }, false},
			restCase{"a site is behind", func(w *impl.WldWorld) { w.Sites[at].Round-- }, false},
			restCase{"a site is ahead", func(w *impl.WldWorld) { w.Sites[at].Round++ }, false},
			restCase{"a site is frozen", func(w *impl.WldWorld) { w.Sites[at].Frozen = true }, true},
			restCase{"a site has added something", func(w *impl.WldWorld) { w.Sites[at].Added = []int{3, 0, 0} }, true},
		)
	}
	for at := range impl.PlnMaxClients {
		list = append(list,
			restCase{"a client waits", func(w *impl.WldWorld) { w.Clients[at] = waiting(0, impl.ResResult{}, call(at, 1, 0, 0, 0)) }, false},
			restCase{"a client was answered", func(w *impl.WldWorld) { w.Clients[at] = answered(7, result(impl.ResOver)) }, true},
		)
	}
	return list
}

func TestP8WhenAllIsAtRest(t *testing.T) {
	p := takers()
	p.Clients, p.Gives = impl.PlnMaxClients, []int{5, 5, 5}
	w := impl.WldNew(p)
	for round := range 3 {
		w = impl.WldCalm(impl.WldStep(w, calling(round, 2, 0, 0)), 3)
	}
	if w.Clerk.Round != 3 || len(w.Log) != 3 {
		t.Fatalf("it is %v", w)
	}
	for _, k := range restCases() {
		then := turnedWorld(w, k.turn)
		if impl.WldRest(then) != k.want || k.name != "one thing is not ok" && !impl.WldOk(then) {
			t.Errorf("%s: WldRest is %v", k.name, !k.want)
		}
	}
}

// Worlds behind a calm are at rest, and with one thing more that happens some are still.
func TestP8RestOfManyWorlds(t *testing.T) {
	t.Parallel()
	turn, counts := &turning{state: 233}, [2]int{}
	worlds := looseWorlds(234, 40)
	for _, w := range strolledWorlds(235, 12, 200, 30) {
		calm := impl.WldCalm(w, 8)
		worlds = append(worlds, w, calm)
		for range 4 {
			worlds = append(worlds, impl.WldStep(calm, turn.someEvent(calm, 3)))
		}
	}
	for _, w := range worlds {
		rest := restByHand(w)
		if impl.WldRest(w) != rest {
			t.Fatalf("WldRest of %v is %v", w, !rest)
		}
		if rest {
			counts[1]++
		} else {
			counts[0]++
		}
	}
	if counts[0] < 100 || counts[1] < 100 {
		t.Errorf("too few of one kind: %v", counts)
	}
}

func TestP16ANewWorldIsAtRest(t *testing.T) {
	for _, p := range okPlans() {
		w := impl.WldNew(p)
		if !impl.WldRest(w) || len(w.Log) > 0 || !slices.Equal(impl.WldVals(w), p.Start) || !impl.SerSame(w) || len(impl.WldBehind(w)) > 0 {
			t.Errorf("the world of %v is %v", p, w)
		}
		if then := impl.WldCalm(w, 2); !sameWorld(then, w) {
			t.Errorf("behind a calm the world of %v is %v", p, then)
		}
	}
	for _, p := range wrongPlans() {
		w := impl.WldNew(p)
		if !isNoWorld(w) || impl.WldRest(w) || len(impl.WldVals(w)) > 0 || impl.SerSame(w) {
			t.Errorf("the world of %v is %v", p, w)
		}
	}
}

// The document's example, as far as it is of the world.
func TestP1P8TheExample(t *testing.T) {
	p := impl.PlnPlan{
		Clients: 2,
		Acts: [][]impl.ActLine{
			actOf(t, "test 2 1x0 -1a0 0", "add 0 -1a0 0", "print 1a0 0"), actOf(t, "add 0 1a0 0"), actOf(t, "print 1x2 0", "test 1 1x0 -20", "add 2 1"),
		},
		Gives: []int{10, 10},
		Start: []int{30, 0, 0},
	}
	events := []impl.WldEvent{
		calling(0, 0, 8, 0), event(impl.WldTry, 0), calling(1, 0, 9, 0), event(impl.WldDeaf, 1), event(impl.WldTry, 1), calling(0, 0, 9, 0), event(impl.WldTry, 0),
		event(impl.WldBring, 0), event(impl.WldTick, 0), event(impl.WldBring, 2), event(impl.WldClerk, 0), event(impl.WldClerk, 1), event(impl.WldTry, 0), event(impl.WldBring, 4),
		event(impl.WldTick, 0), event(impl.WldBring, 2), event(impl.WldBring, 2), event(impl.WldBring, 6), event(impl.WldBring, 6), event(impl.WldBring, 6), event(impl.WldTry, 0),
	}
	w := impl.WldRun(impl.WldNew(p), events)
	want := []impl.LogDone{logged(call(0, 1, 0, 8, 0), impl.ResDone, 8), logged(call(1, 1, 0, 9, 0), impl.ResDone, 9), logged(call(0, 2, 0, 9, 0), impl.ResDone, 9)}
	told := fmt.Sprint(impl.WldVals(w), w.Clerk.Round, impl.WldBehind(w), impl.SerSame(w))
	if !sameLog(w.Log, want) || told != "[4 0 0] 1 [] true" {
		t.Errorf("it is %v, with %s", w, told)
	}
	for at := range events {
		then := impl.WldRun(impl.WldNew(p), events[:at])
		if calm := impl.WldCalm(then, 8); !impl.SerSame(then) || !impl.SerSame(calm) || !impl.WldRest(calm) {
			t.Errorf("behind %d it is %v, and behind a calm %v", at, then, calm)
		}
	}
}
