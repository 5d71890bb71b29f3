package tests

import (
	"runtime"
	"slices"
	"sync"
	"testing"

	"loop.example/concord/impl"
)

func roomyLog(list []impl.LogDone) []impl.LogDone {
	var long []impl.LogDone
	for _, one := range list {
		long = append(long, impl.LogDone{Call: roomyCall(one.Call), Res: impl.ResResult{Code: one.Res.Code, Tells: roomy(one.Res.Tells)}})
	}
	return append(long, impl.LogDone{Call: call(0, mark, 0)})[:len(list)]
}

func checkLogAsItWas(t *testing.T, name string, list, before []impl.LogDone) {
	t.Helper()
	for at, one := range list {
		checkCallAsItWas(t, name, one.Call, before[at].Call)
		checkGiven(t, name, [][]int{one.Res.Tells}, [][]int{before[at].Res.Tells})
		if one.Res.Code != before[at].Res.Code {
			t.Errorf("%s: the result %d is %v, and was %v", name, at, one.Res, before[at].Res)
		}
	}
	if behind := list[:len(list)+1][len(list)]; behind.Call.Seq != mark {
		t.Errorf("%s: behind Log stands %v", name, behind)
	}
}

// roomyWorld is a copy with marked spare room behind each of its lists.
func roomyWorld(w impl.WldWorld) impl.WldWorld {
	long := impl.WldWorld{Plan: roomyPlan(w.Plan), Clerk: roomyClerk(w.Clerk)}
	for _, s := range w.Sites {
		long.Sites = append(long.Sites, roomySite(s))
	}
	for _, client := range w.Clients {
		client.Call, client.Res.Tells = roomyCall(client.Call), roomy(client.Res.Tells)
		long.Clients = append(long.Clients, client)
	}
	for _, m := range w.Net {
		long.Net = append(long.Net, roomyMessage(m))
	}
	long.Log = roomyLog(w.Log)
	long.Sites = append(long.Sites, impl.SitSite{Round: mark})[:len(w.Sites)]
	long.Clients = append(long.Clients, impl.ConClient{Seq: mark})[:len(w.Clients)]
	long.Net = append(long.Net, impl.MsgMsg{Kind: mark})[:len(w.Net)]
	return long
}

func checkWorldAsItWas(t *testing.T, name string, w, before impl.WldWorld) {
	t.Helper()
	if !sameWorld(w, before) {
		t.Fatalf("%s: the world is %v, and was %v", name, w, before)
	}
	checkPlanAsItWas(t, name, w.Plan, before.Plan)
	checkClerkAsItWas(t, name, w.Clerk, before.Clerk)
	for at, s := range w.Sites {
		checkSiteAsItWas(t, name, s, before.Sites[at])
	}
	for at, client := range w.Clients {
		checkCallAsItWas(t, name, client.Call, before.Clients[at].Call)
		checkGiven(t, name, [][]int{client.Res.Tells}, [][]int{before.Clients[at].Res.Tells})
	}
	for at, m := range w.Net {
		checkMessageAsItWas(t, name, m, before.Net[at])
	}
	checkLogAsItWas(t, name, w.Log, before.Log)
	behind := []int{
		w.Sites[:len(w.Sites)+1][len(w.Sites)].Round, w.Clients[:len(w.Clients)+1][len(w.Clients)].Seq, w.Net[:len(w.Net)+1][len(w.Net)].Kind,
	}
	if !slices.Equal(behind, []int{mark, mark, mark}) {
		t.Errorf("%s: behind the lists stands %v", name, behind)
	}
}

// numbersOfWorld are all lists of numbers that a world has.
func numbersOfWorld(w impl.WldWorld) [][]int {
	lists := append(slices.Concat(numbersOfClerk(w.Clerk), numbersOfMessages(w.Net)), w.Plan.Gives, w.Plan.Start)
	for _, act := range w.Plan.Acts {
		for _, l := range act {
			lists = append(lists, l.Form.C, l.Form.D)
		}
	}
	for _, s := range w.Sites {
		lists = append(lists, numbersOfSite(s)...)
	}
	for _, client := range w.Clients {
		lists = append(lists, client.Call.Args, client.Res.Tells)
	}
	for _, one := range w.Log {
		lists = append(lists, one.Call.Args, one.Res.Tells)
	}
	return lists
}

// checkWorldApart writes all over a world, spare room included.
func checkWorldApart(t *testing.T, name string, w impl.WldWorld) {
	t.Helper()
	checkNumbersApart(t, name, numbersOfWorld(w))
	dones := [][]impl.PlnDone{w.Clerk.Done}
	for _, s := range w.Sites {
		dones = append(dones, s.Done)
	}
	for _, m := range w.Net {
		dones = append(dones, m.Done)
	}
	checkApart(t, name, dones, func(i int) impl.PlnDone { return impl.PlnDone{Seq: i} }, func(one impl.PlnDone, i int) bool { return one.Seq == i })
	checkApart(t, name, w.Plan.Acts, func(i int) impl.ActLine { return impl.ActLine{Kind: i} }, func(l impl.ActLine, i int) bool { return l.Kind == i })
	scribbleOver(w.Plan.Acts, []impl.ActLine{{Kind: -mark}})
	scribbleOver(w.Clerk.Wants, impl.PlnCall{Seq: -mark})
	scribbleOver(w.Clerk.Got, impl.ClkGot{Has: true, Added: []int{-mark}})
	scribbleOver(w.Sites, impl.SitSite{Round: -mark})
	scribbleOver(w.Clients, impl.ConClient{Seq: -mark})
	scribbleOver(w.Net, impl.MsgMsg{Kind: -mark})
	scribbleOver(w.Log, impl.LogDone{Call: impl.PlnCall{Seq: -mark}})
}

func TestAnswersOfWldNewAreNewMemory(t *testing.T) {
	before := takers()
	for range 2 {
		p := roomyPlan(before)
		w := impl.WldNew(p)
		if !samePlan(w.Plan, before) || len(w.Sites) != 2 || len(w.Clients) != 3 {
			t.Fatalf("WldNew is %v", w)
		}
		checkWorldApart(t, "WldNew", w)
		checkPlanAsItWas(t, "WldNew", p, before)
	}
}

// memoryWorlds have all that a world may have, or as much as may be.
func memoryWorlds() []impl.WldWorld {
	was := withClient(stir(), 0, stir().Clients[0], done(3, impl.ResDone, 2))
	return []impl.WldWorld{stir(), was, withNet(stir(), 0), withNet(stir(), impl.WldMaxNet-1), withLog(withNet(stir(), impl.WldMaxNet), impl.WldMaxLog)}
}

func TestAnswersOfWldStepAreNewMemory(t *testing.T) {
	for _, before := range memoryWorlds() {
		for _, kind := range append(worldKinds(), 0) {
			for at := -1; at <= 5; at++ {
				given, args := roomyWorld(before), roomy([]int{4, 0})
				for range 2 {
					e := impl.WldEvent{Kind: kind, At: at, Args: args}
					then := impl.WldStep(given, e)
					if want := stepByHand(before, e); !sameWorld(then, want) || !impl.WldOk(given) {
						t.Fatalf("WldStep of %v is %v, not %v", e, then, want)
					}
					checkWorldApart(t, "WldStep", then)
					checkWorldAsItWas(t, "WldStep", given, before)
					checkGiven(t, "WldStep", [][]int{args}, [][]int{{4, 0}})
				}
			}
		}
	}
}

// Nothing runs on behind an answer, and calls at the same time do not get into each other's way.
func TestWorldsLeaveNothingRunning(t *testing.T) {
	before := runtime.NumGoroutine()
	w, e := stir(), event(impl.WldBring, 2)
	want := stepByHand(w, e)
	var all sync.WaitGroup
	for range 8 {
		all.Go(func() {
			for range 100 {
				if then := impl.WldStep(w, e); !sameWorld(then, want) {
					t.Errorf("WldStep is %v, not %v", then, want)
				}
			}
		})
	}
	all.Wait()
	checkNothingRuns(t, before)
}
