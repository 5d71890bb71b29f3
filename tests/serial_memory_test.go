package tests

import (
	"runtime"
	"slices"
	"sync"
	"testing"

	"loop.example/concord/impl"
)

func TestAnswersOfSerRunAreNewMemory(t *testing.T) {
	for _, before := range [][]impl.LogDone{nil, stir().Log[:1], stir().Log, withLog(stir(), impl.WldMaxLog).Log} {
		p, list := roomyPlan(takers()), roomyLog(before)
		want, wantPots := serialByHand(takers(), before)
		for range 2 {
			results, pots := impl.SerRun(p, list)
			if !sameResults(results, want) || !slices.Equal(pots, wantPots) {
				t.Fatalf("SerRun of %v is %v and %v", before, results, pots)
			}
			lists := [][]int{pots}
			for _, r := range results {
				lists = append(lists, r.Tells)
			}
			checkNumbersApart(t, "SerRun", lists)
			scribbleOver(results, impl.ResResult{Code: -mark, Tells: []int{mark}})
			checkPlanAsItWas(t, "SerRun", p, takers())
			checkLogAsItWas(t, "SerRun", list, before)
		}
	}
}

func TestAnswersOfLogOfAreNewMemory(t *testing.T) {
	before := append(slices.Clone(stir().Log), logged(call(-1, 0, 9, 1), -1, 5))
	for client := -1; client <= 3; client++ {
		list := roomyLog(before)
		for range 2 {
			own := impl.LogOf(list, client)
			if !sameLog(own, callsOf(before, client)) {
				t.Fatalf("LogOf %d is %v", client, own)
			}
			var lists [][]int
			for _, one := range own {
				lists = append(lists, one.Call.Args, one.Res.Tells)
			}
			checkNumbersApart(t, "LogOf", lists)
			scribbleOver(own, impl.LogDone{Call: impl.PlnCall{Seq: -mark}})
			checkLogAsItWas(t, "LogOf", list, before)
		}
	}
}

func TestAnswersAboutWorldsAreNewMemory(t *testing.T) {
	worlds := append(memoryWorlds(), spread(7, 7, 7), spread(6, 6, 6))
	for _, before := range worlds {
		w := roomyWorld(before)
		for range 2 {
			vals, behind := impl.WldVals(w), impl.WldBehind(w)
			if !slices.Equal(vals, valsByHand(before)) || !slices.Equal(behind, behindByHand(before)) {
				t.Fatalf("of %v WldVals is %v, and WldBehind %v", before, vals, behind)
			}
			if impl.SerSame(w) != sameByHand(before) || impl.WldRest(w) != restByHand(before) {
				t.Fatalf("of %v SerSame is %v, and WldRest %v", before, impl.SerSame(w), impl.WldRest(w))
			}
			checkNumbersApart(t, "WldVals and WldBehind", [][]int{vals, behind})
			checkWorldAsItWas(t, "WldVals and WldBehind", w, before)
		}
	}
}

func TestAnswersOfWldCalmAreNewMemory(t *testing.T) {
	for _, before := range append(memoryWorlds(), crowdedWorld(), orderly()) {
		w := roomyWorld(before)
		for _, rounds := range []int{-1, 0, 1, 1, 5} {
			want, _, _ := calmByHand(before, rounds)
			then := impl.WldCalm(w, rounds)
			if !sameWorld(then, want) {
				t.Fatalf("WldCalm of %d in %v is %v, not %v", rounds, before, then, want)
			}
			checkWorldApart(t, "WldCalm", then)
			checkWorldAsItWas(t, "WldCalm", w, before)
		}
	}
}

// runEvents are many of each kind, most of which fit.
func runEvents() []impl.WldEvent {
	list := []impl.WldEvent{calling(1, 0, 3, 0), event(impl.WldDeaf, 1), event(impl.WldTry, 1), event(impl.WldTry, 2), calling(2, 1, 5, 0), event(impl.WldTick, 0)}
	for at := range 6 {
		list = append(list, event(impl.WldTwice, at), event(impl.WldBring, 0), event(impl.WldTry, at%3), event(impl.WldLose, 9), event(impl.WldFall, at), event(impl.WldRise, at))
	}
	return append(list, event(impl.WldClerk, 0), event(impl.WldClerk, 1), event(0, 0))
}

func TestAnswersOfWldRunAreNewMemory(t *testing.T) {
	for _, before := range memoryWorlds() {
		w := roomyWorld(before)
		var events []impl.WldEvent
		for _, e := range runEvents() {
			e.Args = roomy(e.Args)
			events = append(events, e)
		}
		want := before
		for _, e := range runEvents() {
			want = stepByHand(want, e)
		}
		for range 2 {
			then := impl.WldRun(w, events)
			if !sameWorld(then, want) {
				t.Fatalf("WldRun in %v is %v, not %v", before, then, want)
			}
			checkWorldApart(t, "WldRun", then)
			checkWorldAsItWas(t, "WldRun", w, before)
			for i, e := range runEvents() {
				checkGiven(t, "WldRun", [][]int{events[i].Args}, [][]int{e.Args})
				if events[i].Kind != e.Kind || events[i].At != e.At || events[i].Act != e.Act {
					t.Errorf("the event %d is %v, and was %v", i, events[i], e)
				}
			}
		}
		if then := impl.WldRun(w, nil); !sameWorld(then, before) {
			t.Fatalf("WldRun of nothing in %v is %v", before, then)
		} else {
			checkWorldApart(t, "WldRun of nothing", then)
			checkWorldAsItWas(t, "WldRun of nothing", w, before)
		}
	}
}

// Nothing runs on behind an answer, and calls at the same time do not get into each other's way.
func TestCalmLeavesNothingRunning(t *testing.T) {
	before := runtime.NumGoroutine()
	w, events := orderly(), runEvents()
	wantCalm, _, _ := calmByHand(w, 3)
	wantRun := impl.WldRun(w, events)
	results, pots := serialByHand(wantCalm.Plan, wantCalm.Log)
	var all sync.WaitGroup
	for range 8 {
		all.Go(func() {
			for range 10 {
				calm := impl.WldCalm(w, 3)
				if !sameWorld(calm, wantCalm) || !sameWorld(impl.WldRun(w, events), wantRun) {
					t.Errorf("WldCalm is %v, not %v", calm, wantCalm)
				}
				if got, vals := impl.SerRun(wantCalm.Plan, wantCalm.Log); !sameResults(got, results) || !slices.Equal(vals, pots) || !impl.SerSame(wantCalm) {
					t.Errorf("SerRun is %v and %v", got, vals)
				}
			}
		})
	}
	all.Wait()
	checkNothingRuns(t, before)
}
