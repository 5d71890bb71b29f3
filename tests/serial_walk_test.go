package tests

import (
	"slices"
	"testing"

	"loop.example/concord/impl"
)

// isAlone says whether what happens is a try, by which a site alone may do a call.
func isAlone(e impl.WldEvent) bool {
	return e.Kind == impl.WldTry || e.Kind == impl.WldDeaf
}

func TestP1AllComesToWhatItWouldComeToAtOneSite(t *testing.T) {
	t.Parallel()
	alone, inRounds, turned := 0, 0, 0
	show := func(before impl.WldWorld, e impl.WldEvent, then impl.WldWorld) {
		results, pots := impl.SerRun(then.Plan, then.Log)
		if !sameResults(results, resultsOf(then.Log)) || !slices.Equal(pots, impl.WldVals(then)) || !impl.SerSame(then) {
			t.Fatalf("behind %v in %v it is %v, of which SerRun is %v and %v", e, before, then, results, pots)
		}
		if !sameByHand(then) {
			t.Fatalf("behind %v in %v it is %v, of which nothing at one site comes", e, before, then)
		}
		if isAlone(e) {
			alone += len(then.Log) - len(before.Log)
		} else {
			inRounds += len(then.Log) - len(before.Log)
		}
		if !slices.Equal(valsByHand(before), valsByHand(then)) {
			turned++
		}
	}
	walks(200, 12, 300, show)
	strolls(201, 24, 300, show)
	if alone < 200 || inRounds < 200 || turned < 200 {
		t.Errorf("too few of one kind: %d, %d, %d", alone, inRounds, turned)
	}
}

// callsOf are the calls of a client, by hand.
func callsOf(list []impl.LogDone, client int) []impl.LogDone {
	return slices.DeleteFunc(slices.Clone(list), func(one impl.LogDone) bool { return one.Call.Client != client })
}

// wronglyDone is what P2 asks of a client's calls; empty, if each was done once, and what was answered was done.
func wronglyDone(client impl.ConClient, own []impl.LogDone) string {
	for i, one := range own {
		if one.Call.Seq != i+1 {
			return "a call was left out, or done twice"
		}
	}
	switch {
	case len(own) < client.Seq:
		return "a call was answered that was not done"
	case client.Seq > 0 && !sameResult(client.Res, own[client.Seq-1].Res):
		return "the answer is another one"
	case len(own) > client.Seq+1:
		return "more than one call was done that was not answered"
	case len(own) > client.Seq && (!client.Busy || !sameCall(own[client.Seq].Call, client.Call)):
		return "a call was done that does not wait"
	}
	return ""
}

func TestP2EachCallIsDoneOnceAtMost(t *testing.T) {
	t.Parallel()
	ahead, answers := 0, 0
	show := func(before impl.WldWorld, e impl.WldEvent, then impl.WldWorld) {
		for at, client := range then.Clients {
			own := impl.LogOf(then.Log, at)
			if why := wronglyDone(client, own); why != "" || !sameLog(own, callsOf(then.Log, at)) {
				t.Fatalf("%s: behind %v in %v it is %v, with %v of client %d", why, e, before, then, own, at)
			}
			if len(own) > client.Seq {
				ahead++
			}
			answers += client.Seq - before.Clients[at].Seq
		}
	}
	walks(202, 15, 300, show)
	strolls(203, 25, 300, show)
	if ahead < 500 || answers < 400 {
		t.Errorf("too few of one kind: %d, %d", ahead, answers)
	}
}

func TestP3UnderATreatyASiteKnowsTheWay(t *testing.T) {
	t.Parallel()
	free, codes := 0, map[int]int{}
	show := func(before impl.WldWorld, e impl.WldEvent, then impl.WldWorld) {
		for at, client := range then.Clients {
			home, one := at%len(then.Sites), client.Call
			if !client.Busy || len(impl.LogOf(then.Log, at)) >= one.Seq || !impl.SitFree(then.Plan, then.Sites[home], home, one) {
				continue
			}
			_, r, _ := impl.SitTry(then.Plan, then.Sites[home], home, one)
			want, _ := impl.ActRun(then.Plan.Acts[one.Act], impl.WldVals(then), one.Args)
			if !sameResult(r, want) || r.Code == 0 {
				t.Fatalf("in %v SitTry of %v is %v, and ActRun %v", then, one, r, want)
			}
			free++
			codes[r.Code]++
		}
	}
	walks(204, 15, 300, show)
	strolls(205, 25, 300, show)
	if free < 500 || codes[impl.ResDone] < 300 || codes[impl.ResStopped] < 50 || codes[impl.ResOver] < 30 {
		t.Errorf("only %d were free: %v", free, codes)
	}
}

// doneBy is which site has done a call alone (-1 if it was done in a round), and in which Round of the clerk.
type doneBy struct{ site, round int }

// swapped is Log with the call at a place behind the next one.
func swapped(list []impl.LogDone, at int) []impl.LogDone {
	other := slices.Clone(list)
	other[at], other[at+1] = other[at+1], other[at]
	return other
}

// checkAnyOrder asks that of two calls, put the other way round, both results and all pots are as they were.
func checkAnyOrder(t *testing.T, w impl.WldWorld, at int) {
	t.Helper()
	results, pots := impl.SerRun(w.Plan, w.Log)
	other, otherPots := impl.SerRun(w.Plan, swapped(w.Log, at))
	if len(other) != len(w.Log) || !slices.Equal(pots, otherPots) {
		t.Fatalf("with %d the other way round %v leaves %v, not %v", at, w.Log, otherPots, pots)
	}
	other[at], other[at+1] = other[at+1], other[at]
	if !sameResults(results, other) {
		t.Fatalf("with %d the other way round %v comes to %v, not %v", at, w.Log, other, results)
	}
}

// Each pair is asked when it is the last one, and all pairs again once Log has grown.
func TestP5InARoundTheOrderDoesNotMatter(t *testing.T) {
	t.Parallel()
	pairs, both := 0, 0
	var by []doneBy
	mayMeet := func(at int) bool {
		return by[at].site >= 0 && by[at+1].site >= 0 && by[at].site != by[at+1].site && by[at].round == by[at+1].round
	}
	show := func(before impl.WldWorld, e impl.WldEvent, then impl.WldWorld) {
		by = by[:len(before.Log)]
		for range len(then.Log) - len(before.Log) {
			one := doneBy{-1, before.Clerk.Round}
			if isAlone(e) {
				one.site = e.At % len(then.Sites)
			}
			by = append(by, one)
			if at := len(by) - 2; at >= 0 && mayMeet(at) {
				checkAnyOrder(t, then, at)
				pairs++
				if first, second := then.Log[at], then.Log[at+1]; first.Res.Code == impl.ResDone && second.Res.Code == impl.ResDone && first.Call.Act != second.Call.Act {
					both++
				}
			}
		}
		if len(then.Log) > len(before.Log) && len(by)%10 == 0 {
			for at := range len(by) - 1 {
				if mayMeet(at) {
					checkAnyOrder(t, then, at)
				}
			}
		}
	}
	walks(206, 20, 300, show)
	strolls(207, 45, 300, show)
	if pairs < 200 || both < 60 {
		t.Errorf("only %d pairs, and %d of two acts that were done", pairs, both)
	}
}

// Of two calls of which one was done in a round the order may matter; that is told apart here.
func TestP5AcrossRoundsTheOrderMayMatter(t *testing.T) {
	p := takers()
	w := impl.WldRun(impl.WldNew(p), []impl.WldEvent{
		calling(0, 2, 0, 0), event(impl.WldTry, 0), event(impl.WldBring, 0), event(impl.WldTick, 0), calling(1, 2, 0, 0), event(impl.WldTry, 1),
		event(impl.WldBring, 0), event(impl.WldBring, 0), event(impl.WldBring, 0), event(impl.WldBring, 0), event(impl.WldBring, 0), event(impl.WldBring, 0), event(impl.WldBring, 0),
	})
	want := []impl.LogDone{logged(call(0, 1, 2, 0, 0), impl.ResDone, 0), logged(call(1, 1, 2, 0, 0), impl.ResDone, 1)}
	if !sameLog(w.Log, want) || !impl.SerSame(w) {
		t.Fatalf("it is %v", w)
	}
	results, _ := impl.SerRun(p, swapped(w.Log, 0))
	if !sameResults(results, []impl.ResResult{result(impl.ResDone, 0), result(impl.ResDone, 1)}) {
		t.Errorf("the other way round it is %v", results)
	}
	if other := turnedWorld(w, func(w *impl.WldWorld) { w.Log = swapped(w.Log, 0) }); impl.SerSame(other) {
		t.Errorf("SerSame is true of %v", other.Log)
	}
}

// checkButUp asks what P18 asks of a fall or a rise.
func checkButUp(t *testing.T, w impl.WldWorld, e impl.WldEvent) {
	t.Helper()
	then := impl.WldStep(w, e)
	want := turnedWorld(w, func(w *impl.WldWorld) {
		switch {
		case e.Kind == impl.WldClerk:
			w.Clerk = then.Clerk
		case isAmong(e.At, len(w.Sites)):
			w.Sites[e.At].Up = e.Kind == impl.WldRise
		}
	})
	if !sameWorld(then, want) || !slices.Equal(impl.WldVals(then), impl.WldVals(w)) {
		t.Fatalf("behind %v in %v it is %v, with %v", e, w, then, impl.WldVals(then))
	}
	if up := e.At > 0; e.Kind == impl.WldClerk && (then.Clerk.Up != up || then.Clerk.Round != w.Clerk.Round || !slices.Equal(then.Clerk.Base, w.Clerk.Base)) {
		t.Fatalf("behind %v in %v the clerk is %v", e, w, then.Clerk)
	}
}

func TestP18WhoFallsOrRisesTurnsNothingElse(t *testing.T) {
	t.Parallel()
	for _, w := range append(looseWorlds(208, 60), strolledWorlds(209, 15, 200, 10)...) {
		for at := -1; at <= len(w.Sites); at++ {
			for _, kind := range []int{impl.WldFall, impl.WldRise, impl.WldClerk} {
				checkButUp(t, w, event(kind, at))
			}
		}
	}
}

func TestP23WithoutACallNothingIsDone(t *testing.T) {
	t.Parallel()
	silent := func(turn *turning, w impl.WldWorld, crowd, step int) impl.WldEvent {
		e := turn.someEvent(w, crowd)
		for e.Kind == impl.WldCall {
			e = turn.someEvent(w, crowd)
		}
		return e
	}
	brought, twice := 0, 0
	walksBy(210, 30, 200, (*turning).mixedPlan, silent, func(before impl.WldWorld, e impl.WldEvent, then impl.WldWorld) {
		if len(then.Log) > 0 || !slices.Equal(impl.WldVals(then), then.Plan.Start) {
			t.Fatalf("behind %v in %v it is %v, with %v", e, before, then, impl.WldVals(then))
		}
		if len(then.Net) < len(before.Net) {
			brought++
		}
		if e.Kind == impl.WldTwice && len(then.Net) > len(before.Net) {
			twice++
		}
	})
	if brought < 500 || twice < 50 {
		t.Errorf("only %d were brought, and %d doubled", brought, twice)
	}
}

func TestP24WithoutGivesPotsTurnInRoundsAlone(t *testing.T) {
	t.Parallel()
	plan := func(turn *turning) impl.PlnPlan {
		p := turn.mixedPlan()
		p.Gives = make([]int, len(p.Gives))
		return p
	}
	turned, alone := 0, 0
	walksBy(211, 45, 200, plan, (*turning).someSharedEvent, func(before impl.WldWorld, e impl.WldEvent, then impl.WldWorld) {
		ended := e.Kind == impl.WldBring && then.Clerk.Round == before.Clerk.Round+1
		if same := slices.Equal(impl.WldVals(before), impl.WldVals(then)); !same && !ended {
			t.Fatalf("behind %v in %v it is %v, with %v", e, before, then, impl.WldVals(then))
		} else if !same {
			turned++
		}
		if isAlone(e) {
			alone += len(then.Log) - len(before.Log)
		}
	})
	if turned < 100 || alone < 50 {
		t.Errorf("only %d turned something, and %d were done alone", turned, alone)
	}
}

// withoutClerk picks what may happen if the clerk falls at a step, and never rises.
func withoutClerk(fallsAt int) func(turn *turning, w impl.WldWorld, crowd, step int) impl.WldEvent {
	return func(turn *turning, w impl.WldWorld, crowd, step int) impl.WldEvent {
		if step == fallsAt {
			return event(impl.WldClerk, 0)
		}
		e := turn.someSharedEvent(w, crowd, step)
		for step > fallsAt && e.Kind == impl.WldClerk && e.At > 0 {
			e = turn.someSharedEvent(w, crowd, step)
		}
		return e
	}
}

// The clerk falls at once, or when much has happened.
func TestP25WithoutAClerkNoRoundEnds(t *testing.T) {
	t.Parallel()
	const steps = 250
	for _, fallsAt := range []int{0, 70} {
		did, sent, step := 0, 0, 0
		show := func(before impl.WldWorld, e impl.WldEvent, then impl.WldWorld) {
			if !impl.SerSame(then) {
				t.Fatalf("behind %v in %v it is %v", e, before, then)
			}
			if step++; step%steps > fallsAt+1 {
				if then.Clerk.Round != before.Clerk.Round || then.Clerk.Up || len(then.Log) > len(before.Log) && !isAlone(e) {
					t.Fatalf("behind %v in %v without a clerk it is %v", e, before, then)
				}
				did += len(then.Log) - len(before.Log)
				sent += max(0, len(then.Net)-len(before.Net))
			}
		}
		walksBy(212, 30, steps, (*turning).mixedPlan, withoutClerk(fallsAt), show)
		if did < 100 || sent < 100 {
			t.Errorf("only %d were done, and %d sent", did, sent)
		}
	}
}
