package tests

import (
	"slices"
	"testing"

	"loop.example/concord/impl"
)

// brokenTreaty is what P4 asks of a world, by hand; empty, if all keep to what they agreed upon.
func brokenTreaty(w impl.WldWorld) string {
	parts := partsByHand(w.Plan.Acts)
	for at, s := range w.Sites {
		here := s.Round == w.Clerk.Round && slices.Equal(s.Base, w.Clerk.Base)
		if !here && (s.Round != w.Clerk.Round-1 || !s.Frozen) {
			return "a site is in no round in which it may be"
		}
		if here && !keepsByHand(treaty(w.Clerk.Base, w.Plan.Gives...), parts, at, s.Added) {
			return "a site has gone too far"
		}
		if got := w.Clerk.Got[at]; got.Has && (!here || !s.Frozen || !slices.Equal(got.Added, s.Added)) {
			return "a site has told what it has not added, or is not frozen"
		}
	}
	added := make([][]int, len(w.Sites))
	for at, s := range w.Sites {
		added[at] = []int{0, 0, 0}
		if s.Round == w.Clerk.Round {
			added[at] = s.Added
		}
	}
	if !impl.TrtAll(treaty(w.Clerk.Base, w.Plan.Gives...), impl.CatForms(w.Plan.Acts), added) {
		return "TrtAll is false"
	}
	return ""
}

func TestP4AllKeepToWhatTheyAgreedUpon(t *testing.T) {
	t.Parallel()
	behind, told, ended := 0, 0, 0
	walks(120, 45, 400, func(before impl.WldWorld, e impl.WldEvent, then impl.WldWorld) {
		if why := brokenTreaty(then); why != "" {
			t.Fatalf("%s: behind %v in %v it is %v", why, e, before, then)
		}
		for at, s := range then.Sites {
			if s.Round < then.Clerk.Round {
				behind++
			}
			if then.Clerk.Got[at].Has {
				told++
			}
		}
		ended += then.Clerk.Round - before.Clerk.Round
	})
	if behind < 200 || told < 200 || ended < 60 {
		t.Errorf("too few of one kind: %d, %d, %d", behind, told, ended)
	}
}

func TestP14FromWldNewOnTheWorldIsOk(t *testing.T) {
	t.Parallel()
	full := 0
	walks(121, 30, 300, func(before impl.WldWorld, e impl.WldEvent, then impl.WldWorld) {
		if !impl.WldOk(then) || !samePlan(then.Plan, before.Plan) {
			t.Fatalf("behind %v in %v it is %v", e, before, then)
		}
		if len(then.Net) == impl.WldMaxNet {
			full++
		}
	})
	if full < 50 {
		t.Errorf("only %d had as many messages as may be", full)
	}
}

// Behind any world that is ok there is one, too, whatever happens.
func TestP14BehindAnyWorldTheWorldIsOk(t *testing.T) {
	t.Parallel()
	turn := &turning{state: 122}
	for _, w := range looseWorlds(123, 12) {
		for _, e := range turn.looseEvents(w) {
			if then := impl.WldStep(w, e); !impl.WldOk(then) || !samePlan(then.Plan, w.Plan) {
				t.Fatalf("behind %v in %v it is %v", e, w, then)
			}
		}
	}
}

func checkGoesForward(t *testing.T, w impl.WldWorld, e impl.WldEvent, then impl.WldWorld) {
	t.Helper()
	if len(then.Log) < len(w.Log) || !sameLog(then.Log[:len(w.Log)], w.Log) {
		t.Fatalf("behind %v Log is %v, and was %v", e, then.Log, w.Log)
	}
	for at, s := range then.Sites {
		if s.Round < w.Sites[at].Round {
			t.Fatalf("behind %v site %d is %v, and was %v", e, at, s, w.Sites[at])
		}
	}
	if then.Clerk.Round < w.Clerk.Round || then.Clerk.Round > w.Clerk.Round+1 {
		t.Fatalf("behind %v the clerk is %v, and was %v", e, then.Clerk, w.Clerk)
	}
}

func TestP15BehindAnyWorld(t *testing.T) {
	t.Parallel()
	rounds, written := 0, 0
	show := func(w impl.WldWorld, e impl.WldEvent, then impl.WldWorld) {
		checkGoesForward(t, w, e, then)
		rounds += then.Clerk.Round - w.Clerk.Round
		written += len(then.Log) - len(w.Log)
	}
	turn := &turning{state: 124}
	for _, w := range append(looseWorlds(125, 12), stir()) {
		for _, e := range turn.looseEvents(w) {
			show(w, e, impl.WldStep(w, e))
		}
	}
	walks(126, 20, 300, show)
	if rounds < 50 || written < 100 {
		t.Errorf("only %d rounds, and %d written down", rounds, written)
	}
}

// checkButNet asks that nothing but the messages has turned.
func checkButNet(t *testing.T, w impl.WldWorld, e impl.WldEvent) impl.WldWorld {
	t.Helper()
	then := impl.WldStep(w, e)
	if !sameWorld(then, turnedWorld(w, func(w *impl.WldWorld) { w.Net = then.Net })) {
		t.Fatalf("behind %v in %v it is %v", e, w, then)
	}
	return then
}

func TestP19WhatIsLostOrDoubledTurnsNothingElse(t *testing.T) {
	more, fewer := 0, 0
	for _, w := range looseWorlds(127, 20) {
		for at := -1; at <= len(w.Net); at++ {
			lost := checkButNet(t, w, event(impl.WldLose, at))
			twice := checkButNet(t, w, event(impl.WldTwice, at))
			wantLost, wantTwice := w.Net, w.Net
			if at >= 0 && at < len(w.Net) {
				wantLost = slices.Delete(slices.Clone(w.Net), at, at+1)
				wantTwice = append(slices.Clone(w.Net), w.Net[at])
				wantTwice = wantTwice[:min(impl.WldMaxNet, len(wantTwice))]
			}
			if !sameMessages(lost.Net, wantLost) || !sameMessages(twice.Net, wantTwice) {
				t.Fatalf("of %v there are %v, and %v", w.Net, lost.Net, twice.Net)
			}
			fewer += len(w.Net) - len(lost.Net)
			more += len(twice.Net) - len(w.Net)
		}
	}
	if more < 100 || fewer < 100 {
		t.Errorf("only %d were doubled, and %d lost", more, fewer)
	}
}

func TestP20ACallTurnsNothingButItsClient(t *testing.T) {
	waited, refused := 0, 0
	turn := &turning{state: 128}
	for _, w := range looseWorlds(129, 100) {
		for at, client := range w.Clients {
			e := calling(at, (turn.next(9)+9)%len(w.Plan.Acts), turn.args()...)
			then := impl.WldStep(w, e)
			want := w
			if room := len(w.Log) + busyClients(w) + 1; !client.Busy && client.Seq < impl.PlnMaxSeq && room <= impl.WldMaxLog {
				waited++
				want = turnedWorld(w, func(w *impl.WldWorld) {
					w.Clients[at] = waiting(client.Seq, client.Res, call(at, client.Seq+1, e.Act, e.Args...))
				})
			} else {
				refused++
			}
			if !sameWorld(then, want) {
				t.Fatalf("behind %v in %v it is %v", e, w, then)
			}
		}
	}
	if waited < 50 || refused < 50 {
		t.Errorf("%d waited, and %d did not", waited, refused)
	}
}

func TestP21WhatWasDoneIsAnsweredAndNotDoneAgain(t *testing.T) {
	t.Parallel()
	lost, rounds := 0, 0
	show := func(w impl.WldWorld, e impl.WldEvent, then impl.WldWorld) {
		for at, client := range then.Clients {
			home := then.Sites[at%len(then.Sites)]
			if !client.Busy || !home.Up || home.Done[at].Seq != client.Call.Seq {
				continue
			}
			answer := impl.WldStep(then, event(impl.WldTry, at))
			want := turnedWorld(then, func(w *impl.WldWorld) { w.Clients[at] = answered(client.Call.Seq, home.Done[at].Res) })
			if !sameWorld(answer, want) {
				t.Fatalf("WldTry of %d in %v is %v", at, then, answer)
			}
			if deaf := impl.WldStep(then, event(impl.WldDeaf, at)); !sameWorld(deaf, then) {
				t.Fatalf("WldDeaf of %d in %v is %v", at, then, deaf)
			}
			if e.Kind == impl.WldDeaf && e.At == at {
				lost++
			}
			if e.Kind == impl.WldBring {
				rounds++
			}
		}
	}
	walks(130, 40, 300, show)
	for _, w := range looseWorlds(131, 40) {
		show(w, impl.WldEvent{}, w)
	}
	if lost < 30 || rounds < 30 {
		t.Errorf("only %d were lost, and %d done in rounds", lost, rounds)
	}
}

// A call that a home does by WldDeaf has the result that WldTry would have answered.
func TestP21DeafDoesWhatTryDoes(t *testing.T) {
	t.Parallel()
	did := 0
	walks(132, 30, 200, func(before impl.WldWorld, e impl.WldEvent, then impl.WldWorld) {
		if e.Kind != impl.WldTry && e.Kind != impl.WldDeaf {
			return
		}
		try, deaf := impl.WldStep(before, event(impl.WldTry, e.At)), impl.WldStep(before, event(impl.WldDeaf, e.At))
		if !sameWorld(deaf, turnedWorld(try, func(w *impl.WldWorld) { w.Clients = before.Clients })) {
			t.Fatalf("WldDeaf of %v in %v is %v, and WldTry %v", e, before, deaf, try)
		}
		if !sameWorld(impl.WldStep(deaf, event(impl.WldTry, e.At)), try) && len(try.Log) > len(before.Log) {
			t.Fatalf("behind WldDeaf WldTry of %v in %v is another one", e, before)
		}
		did += len(try.Log) - len(before.Log)
	})
	if did < 100 {
		t.Errorf("only %d were done", did)
	}
}

// checkTry asks what P22 asks, and tells which of three it was: answered, asked for, or nothing.
func checkTry(t *testing.T, w impl.WldWorld, at int) int {
	t.Helper()
	then, home := impl.WldStep(w, event(impl.WldTry, at)), at%len(w.Sites)
	same := turnedWorld(w, func(w *impl.WldWorld) {
		w.Sites[home], w.Clients[at], w.Net, w.Log = then.Sites[home], then.Clients[at], then.Net, then.Log
	})
	if !sameWorld(then, same) {
		t.Fatalf("WldTry of %d in %v turns others: %v", at, w, then)
	}
	one := w.Clients[at].Call
	switch {
	case !then.Clients[at].Busy:
		if then.Clients[at].Seq != one.Seq || !impl.ResOk(then.Clients[at].Res) || !sameMessages(then.Net, w.Net) {
			t.Fatalf("WldTry of %d in %v answers %v", at, w, then)
		}
		return 0
	case len(then.Net) > len(w.Net):
		if !sameWorld(then, turnedWorld(w, sends(wants(one)))) {
			t.Fatalf("WldTry of %d in %v asks: %v", at, w, then)
		}
		return 1
	}
	if !sameWorld(then, w) {
		t.Fatalf("WldTry of %d in %v turns something: %v", at, w, then)
	}
	return 2
}

func TestP22ATryIsAnsweredOrAskedFor(t *testing.T) {
	t.Parallel()
	var counts [3]int
	tryAll := func(w impl.WldWorld) {
		for at, client := range w.Clients {
			if client.Busy {
				counts[checkTry(t, w, at)]++
			}
		}
	}
	for _, w := range looseWorlds(133, 100) {
		tryAll(w)
	}
	walks(134, 15, 200, func(before impl.WldWorld, e impl.WldEvent, then impl.WldWorld) { tryAll(then) })
	if slices.Min(counts[:]) < 50 {
		t.Errorf("too few of one kind: %v", counts)
	}
}

// A try that asks where there is no room turns nothing, and where the home is up, and the call is the next one, nothing else keeps it from asking.
func TestP22NothingTurnsForNoReason(t *testing.T) {
	asked := 0
	for _, w := range looseWorlds(135, 100) {
		for at, client := range w.Clients {
			home := w.Sites[at%len(w.Sites)]
			if !client.Busy || !home.Up || client.Call.Seq != home.Done[at].Seq+1 {
				continue
			}
			kind := checkTry(t, w, at)
			free := impl.SitFree(w.Plan, home, at%len(w.Sites), client.Call)
			want := 0
			if !free && len(w.Net) < impl.WldMaxNet {
				want, asked = 1, asked+1
			} else if !free {
				want = 2
			}
			if kind != want {
				t.Fatalf("WldTry of %d in %v is of kind %d, not %d", at, w, kind, want)
			}
		}
	}
	if asked < 30 {
		t.Errorf("only %d asked", asked)
	}
}

// Rounds go on up to the last one, in which sites stay frozen; all keep to the treaty there, too.
func TestP4P14ToTheLastRound(t *testing.T) {
	p := takers()
	p.Gives = []int{4, 3}
	w := impl.WldStep(impl.WldNew(p), calling(0, 2, 0, 0))
	for range impl.PlnMaxRound + 20 {
		for _, e := range []impl.WldEvent{event(impl.WldTry, 0), calling(0, 2, 0, 0), calling(1, 0, 1, 0), event(impl.WldTry, 1), event(impl.WldTwice, 0), event(impl.WldBring, 0), event(impl.WldTick, 0)} {
			w = impl.WldStep(w, e)
		}
		for len(w.Net) > 1 {
			w = impl.WldStep(w, event(impl.WldBring, len(w.Net)-1))
			if why := brokenTreaty(w); why != "" || !impl.WldOk(w) {
				t.Fatalf("%s: it is %v", why, w)
			}
		}
	}
	if w.Clerk.Round != impl.PlnMaxRound || !w.Sites[0].Frozen || !w.Sites[1].Frozen || w.Sites[0].Round != impl.PlnMaxRound {
		t.Errorf("at last it is %v", w)
	}
}

// From WldNew on no call is done that Log has no room for, as none waits that it has no room for.
func TestP20LogHasRoomForAllThatWaits(t *testing.T) {
	for _, gives := range [][]int{{50}, {50, 0}, {0, 0, 0}} {
		p := takers()
		p.Clients, p.Gives = impl.PlnMaxClients, gives
		w := impl.WldNew(p)
		for range impl.WldMaxLog {
			for at := range w.Clients {
				w = impl.WldStep(w, calling(at, at%2, (len(w.Log)+at)%2, 0))
			}
			for at := range w.Clients {
				w = impl.WldStep(impl.WldStep(w, event(impl.WldDeaf, at)), event(impl.WldTry, at))
			}
			w = impl.WldStep(w, event(impl.WldTick, 0))
			for len(w.Net) > 0 {
				w = impl.WldStep(w, event(impl.WldBring, 0))
			}
		}
		answers := 0
		for _, client := range w.Clients {
			answers += client.Seq
		}
		if answers != impl.WldMaxLog || len(w.Log) != impl.WldMaxLog || busyClients(w) != 0 {
			t.Errorf("with %v %d were answered, %d are written down, and %d wait", gives, answers, len(w.Log), busyClients(w))
		}
	}
}
