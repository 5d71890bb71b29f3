package tests

import (
	"math"
	"slices"
	"testing"

	"loop.example/concord/impl"
)

// stepCase is one thing that happens in a world, and what it turns; where that is nil all is as it was.
type stepCase struct {
	name string
	w    impl.WldWorld
	e    impl.WldEvent
	turn func(w *impl.WldWorld)
}

func checkSteps(t *testing.T, cases []stepCase) {
	t.Helper()
	for _, k := range cases {
		want := k.w
		if k.turn != nil {
			want = turnedWorld(k.w, k.turn)
		}
		if then := impl.WldStep(k.w, k.e); !sameWorld(then, want) {
			t.Errorf("%s: WldStep of %v is %v, not %v", k.name, k.e, then, want)
		}
	}
}

// withClient has one client that is another one, and its home with so much done for it.
func withClient(w impl.WldWorld, at int, client impl.ConClient, home impl.PlnDone) impl.WldWorld {
	return turnedWorld(w, func(w *impl.WldWorld) {
		w.Clients[at] = client
		w.Sites[at%len(w.Sites)].Done[at] = home
	})
}

func waits(at int, one impl.PlnCall) func(w *impl.WldWorld) {
	return func(w *impl.WldWorld) { w.Clients[at].Busy, w.Clients[at].Call = true, one }
}

func TestP20WldCallOfStir(t *testing.T) {
	w := stir()
	calm := turnedWorld(w, func(w *impl.WldWorld) { w.Clients = make([]impl.ConClient, 3) })
	down := turnedWorld(w, func(w *impl.WldWorld) {
		w.Sites[1].Up = false
		w.Clerk = clerkCase{w.Plan, w.Clerk}.down().c
	})
	last := withClient(w, 1, answered(impl.PlnMaxSeq-1, result(impl.ResOver)), impl.PlnDone{})
	none := withClient(w, 1, answered(impl.PlnMaxSeq, result(impl.ResOver)), impl.PlnDone{})
	cases := []stepCase{
		{"the next call", w, calling(1, 0, 4, 0), waits(1, call(1, 2, 0, 4, 0))},
		{"the last act, with arguments at their ends", w, calling(1, 3, 9, -9), waits(1, call(1, 2, 3, 9, -9))},
		{"the first call of the first client", calm, calling(0, 1, 0, 0), waits(0, call(0, 1, 1, 0, 0))},
		{"the first call of the last client", calm, calling(2, 1, 0, 0), waits(2, call(2, 1, 1, 0, 0))},
		{"the first client waits already", w, calling(0, 0, 4, 0), nil},
		{"the last client waits already", w, calling(2, 0, 4, 0), nil},
		{"all are down, and the home is frozen", down, calling(1, 0, 4, 0), waits(1, call(1, 2, 0, 4, 0))},
		{"many messages are on their way", withNet(w, impl.WldMaxNet), calling(1, 0, 4, 0), waits(1, call(1, 2, 0, 4, 0))},
		{"its last call", last, calling(1, 0, 4, 0), waits(1, call(1, impl.PlnMaxSeq, 0, 4, 0))},
		{"it has called as often as it may", none, calling(1, 0, 4, 0), nil},
		{"no arguments", w, calling(1, 0), nil},
	}
	for _, at := range wrongSites(3) {
		cases = append(cases, stepCase{"no such client", w, calling(at, 0, 4, 0), nil}, stepCase{"no such client, and none waits", calm, calling(at, 0, 4, 0), nil})
	}
	for _, act := range wrongSites(4) {
		cases = append(cases, stepCase{"no such act", w, calling(1, act, 4, 0), nil})
	}
	for _, args := range wrongArgs() {
		cases = append(cases, stepCase{"wrong arguments", w, calling(1, 0, args...), nil})
	}
	checkSteps(t, cases)
}

// Log keeps a place for each call that waits.
func TestP20WldCallWhereLogIsNearlyFull(t *testing.T) {
	for busy := range 3 {
		w := turnedWorld(stir(), func(w *impl.WldWorld) {
			for at, client := range []int{0, 2} {
				if at >= busy {
					w.Clients[client] = impl.ConClient{}
				}
			}
		})
		for many := impl.WldMaxLog - 5; many <= impl.WldMaxLog; many++ {
			k := stepCase{"no room", withLog(w, many), calling(1, 0, 4, 0), nil}
			if many+busy < impl.WldMaxLog {
				k.name, k.turn = "room", waits(1, call(1, 2, 0, 4, 0))
			}
			checkSteps(t, []stepCase{k})
		}
	}
}

// doesAlone is what turns where site 0 does the call of client 2 alone.
func doesAlone(w *impl.WldWorld) {
	w.Sites[0].Added = []int{-7, 0, 0}
	w.Sites[0].Done[2] = done(1, impl.ResDone, 4)
	writeByHand(w, call(2, 1, 0, 4, 0), result(impl.ResDone, 4))
}

func doesAloneAndAnswers(w *impl.WldWorld) {
	doesAlone(w)
	w.Clients[2] = answered(1, result(impl.ResDone, 4))
}

func sends(list ...impl.MsgMsg) func(w *impl.WldWorld) {
	return func(w *impl.WldWorld) { w.Net = append(w.Net, list...) }
}

func TestP21P22WldTryOfStir(t *testing.T) {
	w := stir()
	try0, deaf0, try2, deaf2 := event(impl.WldTry, 0), event(impl.WldDeaf, 0), event(impl.WldTry, 2), event(impl.WldDeaf, 2)
	asked := sends(wants(call(0, 3, 2, 0, 0)))
	down := turnedWorld(w, func(w *impl.WldWorld) { w.Sites[0].Up = false })
	frozen := turnedWorld(w, func(w *impl.WldWorld) { w.Sites[0].Frozen = true })
	clerkless := turnedWorld(w, func(w *impl.WldWorld) { w.Clerk = clerkCase{w.Plan, w.Clerk}.down().c })
	checkSteps(t, []stepCase{
		{"done alone", w, try2, doesAloneAndAnswers},
		{"done alone, deaf", w, deaf2, doesAlone},
		{"done alone, with the other site and the clerk down", turnedWorld(clerkless, func(w *impl.WldWorld) { w.Sites[1].Up = false }), try2, doesAloneAndAnswers},
		{"asked for", w, try0, asked},
		{"asked for, deaf", w, deaf0, asked},
		{"asked for, with the clerk down", clerkless, try0, asked},
		{"frozen", frozen, try2, sends(wants(call(2, 1, 0, 4, 0)))},
		{"frozen, deaf", frozen, deaf2, sends(wants(call(2, 1, 0, 4, 0)))},
		{"the home is down", down, try2, nil},
		{"the home is down, deaf", down, deaf2, nil},
		{"it does not wait", w, event(impl.WldTry, 1), nil},
		{"it does not wait, deaf", w, event(impl.WldDeaf, 1), nil},
	})
	for _, at := range wrongSites(3) {
		checkSteps(t, []stepCase{
			{"no such client", w, event(impl.WldTry, at), nil},
			{"no such client, deaf", w, event(impl.WldDeaf, at), nil},
		})
	}
}

func TestP22WldTryWithMoreOrLessRoom(t *testing.T) {
	w := stir()
	try0, try2, deaf2 := event(impl.WldTry, 0), event(impl.WldTry, 2), event(impl.WldDeaf, 2)
	asked := sends(wants(call(0, 3, 2, 0, 0)))
	for _, deaf := range []int{0, 1} {
		try0.Kind = impl.WldTry + deaf
		checkSteps(t, []stepCase{
			{"no message", withNet(w, 0), try0, asked},
			{"room for one", withNet(w, impl.WldMaxNet-1), try0, asked},
			{"no room", withNet(w, impl.WldMaxNet), try0, nil},
		})
	}
	checkSteps(t, []stepCase{
		{"done alone needs none", withNet(w, impl.WldMaxNet), try2, doesAloneAndAnswers},
		{"the first one of Log", withLog(w, 0), try2, doesAloneAndAnswers},
		{"Log has room for one", withLog(w, impl.WldMaxLog-1), try2, doesAloneAndAnswers},
		{"Log has no room: it is done and answered", withLog(w, impl.WldMaxLog), try2, doesAloneAndAnswers},
		{"Log has no room, deaf: it is done", withLog(w, impl.WldMaxLog), deaf2, doesAlone},
	})
	if full := impl.WldStep(withLog(w, impl.WldMaxLog), try2); len(full.Log) != impl.WldMaxLog {
		t.Errorf("Log has %d", len(full.Log))
	}
}

func TestP21WldTryOfWhatWasDone(t *testing.T) {
	was := done(3, impl.ResDone, 2)
	w := withClient(stir(), 0, stir().Clients[0], was)
	answer := func(w *impl.WldWorld) { w.Clients[0] = answered(3, was.Res) }
	frozen := turnedWorld(w, func(w *impl.WldWorld) { w.Sites[0].Frozen = true })
	down := turnedWorld(w, func(w *impl.WldWorld) { w.Sites[0].Up = false })
	try, deaf := event(impl.WldTry, 0), event(impl.WldDeaf, 0)
	checkSteps(t, []stepCase{
		{"answered", w, try, answer},
		{"deaf: nothing turns", w, deaf, nil},
		{"answered by one that is frozen", frozen, try, answer},
		{"the home is down", down, try, nil},
		{"no room for messages, and none in Log", withLog(withNet(w, impl.WldMaxNet), impl.WldMaxLog), try, answer},
		{"the other client waits still", w, event(impl.WldTry, 2), doesAloneAndAnswers},
	})
	for _, other := range []impl.PlnDone{{}, done(1, impl.ResDone), done(4, impl.ResDone, 1), done(impl.PlnMaxSeq, impl.ResOver)} {
		w := withClient(stir(), 0, stir().Clients[0], other)
		checkSteps(t, []stepCase{{"the home has done another one", w, try, nil}, {"the home has done another one, deaf", w, deaf, nil}})
	}
}

// A call that stops, or is over, is done and answered like any other one.
func TestP21P22WldTryOfOtherResults(t *testing.T) {
	over := stir()
	over.Plan.Acts[1] = []impl.ActLine{adding(0, number(5))}
	edge := turnedWorld(over, func(w *impl.WldWorld) {
		w.Sites[0].Base, w.Sites[0].Added = []int{impl.ValMax, 0, 0}, []int{10, 0, 0}
		w.Clients[2].Call.Act = 1
	})
	stops := turnedWorld(stir(), func(w *impl.WldWorld) { w.Clients[2].Call.Act = 3 })
	for _, k := range []struct {
		name string
		w    impl.WldWorld
		r    impl.ResResult
	}{{"it stops", stops, result(impl.ResStopped)}, {"it is over", edge, result(impl.ResOver)}} {
		does := func(w *impl.WldWorld) {
			w.Sites[0].Done[2] = impl.PlnDone{Seq: 1, Res: k.r}
			writeByHand(w, w.Clients[2].Call, k.r)
		}
		checkSteps(t, []stepCase{
			{k.name + ", deaf", k.w, event(impl.WldDeaf, 2), does},
			{k.name, k.w, event(impl.WldTry, 2), func(w *impl.WldWorld) {
				does(w)
				w.Clients[2] = answered(1, k.r)
			}},
		})
	}
}

func TestP21TheLastCallOfAClient(t *testing.T) {
	last := call(2, impl.PlnMaxSeq, 0, 4, 0)
	w := withClient(stir(), 2, waiting(impl.PlnMaxSeq-1, result(impl.ResDone, 1), last), done(impl.PlnMaxSeq-1, impl.ResDone, 1))
	deaf := impl.WldStep(w, event(impl.WldDeaf, 2))
	if !sameClient(deaf.Clients[2], w.Clients[2]) || deaf.Sites[0].Done[2].Seq != impl.PlnMaxSeq || len(deaf.Log) != len(w.Log)+1 {
		t.Fatalf("deaf it is %v", deaf)
	}
	then := impl.WldStep(deaf, event(impl.WldTry, 2))
	if !sameClient(then.Clients[2], answered(impl.PlnMaxSeq, result(impl.ResDone, 4))) || len(then.Log) != len(deaf.Log) {
		t.Fatalf("then it is %v", then)
	}
	checkSteps(t, []stepCase{{"no more calls", then, calling(2, 0, 4, 0), nil}, {"nothing to try", then, event(impl.WldTry, 2), nil}})
}

// brings is a message taken out, and what turns by it.
func brings(at int, turn func(w *impl.WldWorld)) func(w *impl.WldWorld) {
	return func(w *impl.WldWorld) {
		w.Net = slices.Delete(w.Net, at, at+1)
		if turn != nil {
			turn(w)
		}
	}
}

// endsRound is what turns at the clerk where site 0 has told in stir: 25 and what both have added is 24, 2 and 2; the call that waits tells of pot 2.
func endsRound(w *impl.WldWorld) {
	w.Clerk.Round, w.Clerk.Base, w.Clerk.Wants, w.Clerk.Got = 5, []int{24, 2, 3}, nil, make([]impl.ClkGot, 2)
	w.Clerk.Done[0] = done(3, impl.ResDone, 2)
	writeByHand(w, call(0, 3, 2, 0, 0), result(impl.ResDone, 2))
	sendByHand(w, clerkCase{w.Plan, w.Clerk}.pacts())
}

func TestWldBringOfStir(t *testing.T) {
	w := stir()
	freezes0 := func(w *impl.WldWorld) {
		w.Sites[0].Frozen = true
		sendByHand(w, []impl.MsgMsg{gives(0, 4, []int{-3, 0, 0}, 2, 1, 0)})
	}
	agrees1 := func(w *impl.WldWorld) {
		w.Sites[1].Frozen, w.Sites[1].Round, w.Sites[1].Base, w.Sites[1].Added = false, 5, []int{9, 8, 7}, []int{0, 0, 0}
		w.Sites[1].Done[1] = done(2, impl.ResOver)
	}
	wait := func(w *impl.WldWorld) { w.Clerk.Wants = append(w.Clerk.Wants, call(2, 1, 2, 0, 0)) }
	again := sends(gives(1, 4, []int{2, 1, 0}, 0, 1, 0))
	clerkless := turnedWorld(w, func(w *impl.WldWorld) { w.Clerk = clerkCase{w.Plan, w.Clerk}.down().c })
	siteless := turnedWorld(w, func(w *impl.WldWorld) { w.Sites[0].Up, w.Sites[1].Up = false, false })
	bring := func(at int) impl.WldEvent { return event(impl.WldBring, at) }
	checkSteps(t, []stepCase{
		{"the first one: a call that waits then", w, bring(0), brings(0, wait)},
		{"site 0 is frozen, and tells", w, bring(1), brings(1, freezes0)},
		{"the round ends", w, bring(2), brings(2, endsRound)},
		{"site 1 agrees", w, bring(3), brings(3, agrees1)},
		{"the last one: site 1 is frozen already, and tells the same", w, bring(4), brings(4, again)},
		{"the place behind", w, bring(5), nil},
		{"no message", withNet(w, 0), bring(0), nil},
		{"the clerk is down, for a call", clerkless, bring(0), brings(0, nil)},
		{"the clerk is down, for what a site tells", clerkless, bring(2), brings(2, nil)},
		{"site 0 is down", siteless, bring(1), brings(1, nil)},
		{"site 1 is down", siteless, bring(3), brings(3, nil)},
		{"the clerk hears though sites are down", siteless, bring(2), brings(2, endsRound)},
		{"sites hear though the clerk is down", clerkless, bring(1), brings(1, freezes0)},
	})
	for _, at := range wrongSites(5) {
		checkSteps(t, []stepCase{{"no such message", w, bring(at), nil}})
	}
}

// A message is taken out first, so that there is room for one that is said by it.
func TestWldBringWithMoreOrLessRoom(t *testing.T) {
	for _, many := range []int{5, 28, 29, 30} {
		w := withNet(stir(), many)
		checkSteps(t, []stepCase{
			{"site 0 tells", w, event(impl.WldBring, 1), brings(1, func(w *impl.WldWorld) {
				w.Sites[0].Frozen = true
				w.Net = append(w.Net, gives(0, 4, []int{-3, 0, 0}, 2, 1, 0))
			})},
			{"the round ends", w, event(impl.WldBring, 2), brings(2, endsRound)},
			{"the last one", w, event(impl.WldBring, many-1), stepOfTheLast(many)},
			{"the place behind", w, event(impl.WldBring, many), nil},
		})
		if then := impl.WldStep(w, event(impl.WldBring, 2)); len(then.Net) != min(many-1+2, impl.WldMaxNet) || then.Net[many-1].To != 0 {
			t.Errorf("of %d messages there are %d then", many, len(then.Net))
		}
	}
}

// stepOfTheLast is the last one of withNet: it freezes in a round that no site is in, but for the one of stir.
func stepOfTheLast(many int) func(w *impl.WldWorld) {
	if many == 5 {
		return brings(4, sends(gives(1, 4, []int{2, 1, 0}, 0, 1, 0)))
	}
	return brings(many-1, nil)
}

// A round may do several calls; they are written down in the order of their clients, as far as there is room.
func TestWldBringOfARoundThatDoesCalls(t *testing.T) {
	three := []impl.LogDone{
		logged(call(0, 3, 2, 0, 0), impl.ResDone, 2),
		logged(call(1, 2, 0, 9, 0), impl.ResDone, 9),
		logged(call(2, 1, 2, 0, 0), impl.ResDone, 3),
	}
	w := turnedWorld(stir(), func(w *impl.WldWorld) {
		w.Clerk.Wants = []impl.PlnCall{three[0].Call, three[1].Call, three[2].Call}
		w.Clients[1] = waiting(1, result(impl.ResStopped), three[1].Call)
		w.Clients[2].Call = three[2].Call
	})
	for _, many := range []int{0, 3, impl.WldMaxLog - 3, impl.WldMaxLog - 2, impl.WldMaxLog - 1, impl.WldMaxLog} {
		full := withLog(w, many)
		then := impl.WldStep(full, event(impl.WldBring, 2))
		want := slices.Concat(full.Log, three[:min(3, impl.WldMaxLog-many)])
		if !sameLog(then.Log, want) {
			t.Errorf("of %d Log is then %v, not %v", many, then.Log, want)
		}
		if then.Clerk.Round != 5 || !slices.Equal(then.Clerk.Base, []int{15, 2, 4}) || !slices.EqualFunc(then.Clients, w.Clients, sameClient) {
			t.Errorf("of %d the clerk is then %v, and the clients %v", many, then.Clerk, then.Clients)
		}
	}
}

// What a round has done is answered once the home has agreed, and is not written down again.
func TestP21WhatARoundHasDoneIsAnswered(t *testing.T) {
	w := impl.WldStep(stir(), event(impl.WldBring, 2))
	if sent := impl.WldStep(w, event(impl.WldTry, 0)); sent.Clients[0].Seq != 2 || len(sent.Net) != len(w.Net)+1 || len(sent.Log) != 4 {
		t.Fatalf("ahead of the pact it is %v", sent)
	}
	w = impl.WldStep(w, event(impl.WldBring, len(w.Net)-2))
	if w.Sites[0].Round != 5 {
		t.Fatalf("site 0 is %v", w.Sites[0])
	}
	checkSteps(t, []stepCase{
		{"answered", w, event(impl.WldTry, 0), func(w *impl.WldWorld) { w.Clients[0] = answered(3, result(impl.ResDone, 2)) }},
		{"deaf", w, event(impl.WldDeaf, 0), nil},
	})
}

func TestP19WldLoseAndTwiceOfStir(t *testing.T) {
	w := stir()
	for _, many := range []int{1, 5, impl.WldMaxNet - 1} {
		few := withNet(w, many)
		for _, at := range []int{0, many / 2, many - 1} {
			checkSteps(t, []stepCase{
				{"one is lost", few, event(impl.WldLose, at), brings(at, nil)},
				{"one is sent once more", few, event(impl.WldTwice, at), sends(few.Net[at])},
			})
		}
	}
	full := withNet(w, impl.WldMaxNet)
	for _, at := range []int{0, 2, impl.WldMaxNet - 1} {
		checkSteps(t, []stepCase{
			{"one of the most is lost", full, event(impl.WldLose, at), brings(at, nil)},
			{"no room for one more", full, event(impl.WldTwice, at), nil},
		})
	}
	for _, net := range []int{0, 1, 5, impl.WldMaxNet} {
		for _, at := range wrongSites(net) {
			some := withNet(w, net)
			checkSteps(t, []stepCase{{"none is lost", some, event(impl.WldLose, at), nil}, {"none is sent", some, event(impl.WldTwice, at), nil}})
		}
	}
}

func TestWldTickOfStir(t *testing.T) {
	w := stir()
	says := append(clerkCase{w.Plan, w.Clerk}.pacts(), freezes(0, 4), freezes(1, 4))
	quiet := turnedWorld(w, func(w *impl.WldWorld) { w.Clerk = clerkCase{w.Plan, w.Clerk}.forgetful().c })
	down := turnedWorld(w, func(w *impl.WldWorld) { w.Clerk = clerkCase{w.Plan, w.Clerk}.down().c })
	for _, at := range []int{0, 1, -1, 99, math.MaxInt, math.MinInt} {
		tick := event(impl.WldTick, at)
		checkSteps(t, []stepCase{
			{"a call waits", w, tick, sends(says...)},
			{"nothing waits", quiet, tick, sends(says[:2]...)},
			{"the clerk is down", down, tick, nil},
		})
	}
	for many := impl.WldMaxNet - 6; many <= impl.WldMaxNet; many++ {
		checkSteps(t, []stepCase{
			{"as many as there is room for", withNet(w, many), event(impl.WldTick, 0), sends(says[:min(4, impl.WldMaxNet-many)]...)},
			{"no message at first", withNet(w, 0), event(impl.WldTick, 0), sends(says...)},
		})
	}
}

func TestWldFallAndRiseOfStir(t *testing.T) {
	w := stir()
	down := turnedWorld(w, func(w *impl.WldWorld) { w.Sites[0].Up, w.Sites[1].Up = false, false })
	for at := range w.Sites {
		checkSteps(t, []stepCase{
			{"a site falls", w, event(impl.WldFall, at), func(w *impl.WldWorld) { w.Sites[at].Up = false }},
			{"a site that is down falls", down, event(impl.WldFall, at), nil},
			{"a site rises", down, event(impl.WldRise, at), func(w *impl.WldWorld) { w.Sites[at].Up = true }},
			{"a site that is up rises", w, event(impl.WldRise, at), nil},
		})
	}
	for _, at := range wrongSites(2) {
		checkSteps(t, []stepCase{{"no such site falls", w, event(impl.WldFall, at), nil}, {"no such site rises", down, event(impl.WldRise, at), nil}})
	}
}

func TestWldClerkOfStir(t *testing.T) {
	w := stir()
	falls := func(w *impl.WldWorld) { w.Clerk = clerkCase{w.Plan, w.Clerk}.down().c }
	rises := func(w *impl.WldWorld) { w.Clerk.Up = true }
	down := turnedWorld(w, falls)
	for _, at := range []int{0, -1, -7, math.MinInt} {
		checkSteps(t, []stepCase{{"it falls", w, event(impl.WldClerk, at), falls}, {"it is down", down, event(impl.WldClerk, at), nil}})
	}
	for _, at := range []int{1, 2, 99, math.MaxInt} {
		checkSteps(t, []stepCase{{"it rises", down, event(impl.WldClerk, at), rises}, {"it is up", w, event(impl.WldClerk, at), nil}})
	}
}

// One site and one client, and the most of both: all are where they should be.
func TestWldStepOfTheLeastAndTheMost(t *testing.T) {
	for _, k := range []struct{ clients, sites int }{{1, 1}, {1, impl.TrtMaxSites}, {impl.PlnMaxClients, 1}, {impl.PlnMaxClients, impl.TrtMaxSites}} {
		p := takers()
		p.Clients, p.Gives = k.clients, slices.Repeat([]int{10}, k.sites)
		w := impl.WldNew(p)
		last, home := k.clients-1, (k.clients-1)%k.sites
		w = impl.WldStep(impl.WldStep(w, calling(last, 0, 4, 0)), event(impl.WldTry, last))
		if !sameLog(w.Log, []impl.LogDone{logged(call(last, 1, 0, 4, 0), impl.ResDone, 4)}) || w.Sites[home].Added[0] != -4 {
			t.Errorf("with %v it is %v", k, w)
		}
		w = impl.WldStep(impl.WldStep(w, calling(last, 2, 0, 0)), event(impl.WldTry, last))
		w = impl.WldStep(impl.WldStep(w, event(impl.WldBring, 0)), event(impl.WldTick, 0))
		if len(w.Net) != 2*k.sites {
			t.Fatalf("with %v there are %v", k, w.Net)
		}
		for len(w.Net) > 0 {
			w = impl.WldStep(w, event(impl.WldBring, 0))
		}
		w = impl.WldStep(w, event(impl.WldTry, last))
		if w.Clerk.Round != 1 || len(w.Log) != 2 || w.Clients[last].Seq != 2 || !slices.Equal(w.Sites[k.sites-1].Base, []int{26, 0, 1}) {
			t.Errorf("with %v it is %v", k, w)
		}
	}
}
