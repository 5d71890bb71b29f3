package tests

import (
	"runtime"
	"slices"
	"sync"
	"testing"

	"loop.example/concord/impl"
)

func roomySite(s impl.SitSite) impl.SitSite {
	s.Base, s.Added, s.Done = roomy(s.Base), roomy(s.Added), roomyDone(s.Done)
	return s
}

func checkSiteAsItWas(t *testing.T, name string, s, before impl.SitSite) {
	t.Helper()
	if !sameSite(s, before) {
		t.Errorf("%s: the site is %v, and was %v", name, s, before)
	}
	checkGiven(t, name, [][]int{s.Base, s.Added}, [][]int{before.Base, before.Added})
	checkDoneAsItWas(t, name, s.Done, before.Done)
}

func roomyMessage(m impl.MsgMsg) impl.MsgMsg {
	m.Call, m.Vals, m.Seqs, m.Done = roomyCall(m.Call), roomy(m.Vals), roomy(m.Seqs), roomyDone(m.Done)
	return m
}

func checkMessageAsItWas(t *testing.T, name string, m, before impl.MsgMsg) {
	t.Helper()
	checkCallAsItWas(t, name, m.Call, before.Call)
	checkGiven(t, name, [][]int{m.Vals, m.Seqs}, [][]int{before.Vals, before.Seqs})
	checkDoneAsItWas(t, name, m.Done, before.Done)
}

// numbersOfSite are all lists of numbers that a site has.
func numbersOfSite(s impl.SitSite) [][]int {
	lists := [][]int{s.Base, s.Added}
	for _, one := range s.Done {
		lists = append(lists, one.Res.Tells)
	}
	return lists
}

func numbersOfMessages(list []impl.MsgMsg) [][]int {
	var lists [][]int
	for _, m := range list {
		lists = append(lists, m.Call.Args, m.Vals, m.Seqs)
		for _, one := range m.Done {
			lists = append(lists, one.Res.Tells)
		}
	}
	return lists
}

// checkAnswersApart writes all over an answer, spare room included.
func checkAnswersApart(t *testing.T, name string, s impl.SitSite, tells []int, says []impl.MsgMsg) {
	t.Helper()
	checkNumbersApart(t, name, slices.Concat(numbersOfSite(s), [][]int{tells}, numbersOfMessages(says)))
	lists := [][]impl.PlnDone{s.Done}
	for _, m := range says {
		lists = append(lists, m.Done)
	}
	checkApart(t, name, lists, func(i int) impl.PlnDone { return impl.PlnDone{Seq: i} }, func(one impl.PlnDone, i int) bool { return one.Seq == i })
	for i := range says[:cap(says)] {
		says[:cap(says)][i] = impl.MsgMsg{Kind: mark}
	}
}

func TestAnswersOfSitNewAreNewMemory(t *testing.T) {
	before := takers()
	for range 2 {
		p := roomyPlan(before)
		s := impl.SitNew(p)
		if !slices.Equal(s.Base, before.Start) || len(s.Done) != before.Clients {
			t.Fatalf("SitNew is %v", s)
		}
		checkAnswersApart(t, "SitNew", s, nil, nil)
		checkPlanAsItWas(t, "SitNew", p, before)
	}
}

func TestAnswersOfSitTryAreNewMemory(t *testing.T) {
	for _, before := range []siteCase{taker(), taker().frozen(true), taker().up(false)} {
		for _, one := range []impl.PlnCall{call(0, 3, 0, 4, 0), call(0, 3, 0, 8, 0), call(0, 2, 0, 4, 0), call(0, 9, 0, 4, 0), call(2, 1, 3, 0, 0), call(1, 2, 0, 4, 0)} {
			given := siteCase{roomyPlan(before.p), roomySite(before.s), before.at}
			asked := roomyCall(one)
			for range 2 {
				s, r, says := given.try(asked)
				want, wantResult, wantSays := before.tryByHand(one)
				if !sameSite(s, want) || !sameResult(r, wantResult) || !sameMessages(says, wantSays) {
					t.Fatalf("SitTry of %v is %v, %v, %v", one, s, r, says)
				}
				impl.SitFree(given.p, given.s, given.at, asked)
				checkAnswersApart(t, "SitTry", s, r.Tells, says)
				checkPlanAsItWas(t, "SitTry", given.p, before.p)
				checkSiteAsItWas(t, "SitTry", given.s, before.s)
				checkCallAsItWas(t, "SitTry", asked, one)
			}
		}
	}
}

func TestAnswersOfSitHearAreNewMemory(t *testing.T) {
	more := []impl.PlnDone{done(3, impl.ResDone, 1, 2), done(9, impl.ResDone, 6), done(1, impl.ResDone, 5)}
	for _, before := range []siteCase{taker(), taker().frozen(true), taker().up(false)} {
		for _, m := range []impl.MsgMsg{freezes(0, 4), freezes(0, 5), agrees(0, 5, []int{9, 8, 7}, more...), agrees(0, 4, []int{9, 8, 7}, more...), wants(call(0, 3, 0, 1, 1))} {
			given := siteCase{roomyPlan(before.p), roomySite(before.s), before.at}
			heard := roomyMessage(m)
			for range 2 {
				s, says := given.hear(heard)
				want, wantSays := before.hearByHand(m)
				if !sameSite(s, want) || !sameMessages(says, wantSays) {
					t.Fatalf("SitHear of %v is %v, %v", m, s, says)
				}
				checkAnswersApart(t, "SitHear", s, nil, says)
				checkPlanAsItWas(t, "SitHear", given.p, before.p)
				checkSiteAsItWas(t, "SitHear", given.s, before.s)
				checkMessageAsItWas(t, "SitHear", heard, m)
			}
		}
	}
}

func TestAnswersOfSitFallAreNewMemory(t *testing.T) {
	for _, before := range []siteCase{taker(), taker().frozen(true), taker().up(false)} {
		for _, up := range []bool{true, false} {
			given := siteCase{roomyPlan(before.p), roomySite(before.s), before.at}
			for range 2 {
				s := impl.SitFall(given.p, given.s, given.at, up)
				if !sameSite(s, before.up(up).s) {
					t.Fatalf("SitFall is %v", s)
				}
				checkAnswersApart(t, "SitFall", s, nil, nil)
				checkPlanAsItWas(t, "SitFall", given.p, before.p)
				checkSiteAsItWas(t, "SitFall", given.s, before.s)
			}
		}
	}
}

// Nothing runs on behind an answer, and calls at the same time do not get into each other's way.
func TestSitesLeaveNothingRunning(t *testing.T) {
	before := runtime.NumGoroutine()
	c := taker()
	var all sync.WaitGroup
	for range 8 {
		all.Go(func() {
			for range 200 {
				s, r, _ := c.try(call(0, 3, 0, 4, 0))
				then, says := c.with(s).hear(freezes(0, 4))
				if r.Code != impl.ResDone || !then.Frozen || len(says) != 1 || says[0].Vals[0] != -7 || says[0].Seqs[0] != 3 {
					t.Errorf("SitTry is %v, %v, and SitHear %v, %v", s, r, then, says)
				}
				impl.SitFall(c.p, then, c.at, false)
			}
		})
	}
	all.Wait()
	checkNothingRuns(t, before)
}

// checkNothingRuns asks that no more goroutines run than before; one that has answered may still be on its last step, so it is given the time for it.
func checkNothingRuns(t *testing.T, before int) {
	t.Helper()
	for range 1000 {
		if runtime.NumGoroutine() <= before {
			return
		}
		runtime.Gosched()
	}
	t.Errorf("%d goroutines run, and %d ran ahead of it", runtime.NumGoroutine(), before)
}
