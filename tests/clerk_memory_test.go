package tests

import (
	"runtime"
	"slices"
	"sync"
	"testing"

	"loop.example/concord/impl"
)

// roomyClerk is a copy with marked spare room behind each of its lists.
func roomyClerk(c impl.ClkClerk) impl.ClkClerk {
	long := impl.ClkClerk{Up: c.Up, Round: c.Round, Base: roomy(c.Base), Done: roomyDone(c.Done)}
	for _, one := range c.Wants {
		long.Wants = append(long.Wants, roomyCall(one))
	}
	long.Wants = append(long.Wants, impl.PlnCall{Seq: mark})[:len(c.Wants)]
	for _, got := range c.Got {
		long.Got = append(long.Got, impl.ClkGot{Has: got.Has, Added: roomy(got.Added), Seqs: roomy(got.Seqs)})
	}
	long.Got = append(long.Got, impl.ClkGot{Added: []int{mark}})[:len(c.Got)]
	return long
}

func checkClerkAsItWas(t *testing.T, name string, c, before impl.ClkClerk) {
	t.Helper()
	if !sameClerk(c, before) {
		t.Errorf("%s: the clerk is %v, and was %v", name, c, before)
	}
	checkGiven(t, name, [][]int{c.Base}, [][]int{before.Base})
	checkDoneAsItWas(t, name, c.Done, before.Done)
	for i, one := range c.Wants {
		checkCallAsItWas(t, name, one, before.Wants[i])
	}
	for i, got := range c.Got {
		checkGiven(t, name, [][]int{got.Added, got.Seqs}, [][]int{before.Got[i].Added, before.Got[i].Seqs})
	}
	wants, got := c.Wants[:len(c.Wants)+1], c.Got[:len(c.Got)+1]
	if wants[len(c.Wants)].Seq != mark || len(got[len(c.Got)].Added) != 1 {
		t.Errorf("%s: behind what waits, or was told, is written", name)
	}
}

// numbersOfClerk are all lists of numbers that a clerk has.
func numbersOfClerk(c impl.ClkClerk) [][]int {
	lists := [][]int{c.Base}
	for _, one := range c.Done {
		lists = append(lists, one.Res.Tells)
	}
	for _, one := range c.Wants {
		lists = append(lists, one.Args)
	}
	for _, got := range c.Got {
		lists = append(lists, got.Added, got.Seqs)
	}
	return lists
}

// checkAnswerApart writes all over an answer, spare room included.
func checkAnswerApart(t *testing.T, name string, a clerkAnswer) {
	t.Helper()
	numbers := slices.Concat(numbersOfClerk(a.c), numbersOfMessages(a.says))
	for _, one := range a.calls {
		numbers = append(numbers, one.Args)
	}
	for _, r := range a.results {
		numbers = append(numbers, r.Tells)
	}
	checkNumbersApart(t, name, numbers)
	dones := [][]impl.PlnDone{a.c.Done}
	for _, m := range a.says {
		dones = append(dones, m.Done)
	}
	checkApart(t, name, dones, func(i int) impl.PlnDone { return impl.PlnDone{Seq: i} }, func(one impl.PlnDone, i int) bool { return one.Seq == i })
	calls := [][]impl.PlnCall{a.c.Wants, a.calls}
	checkApart(t, name, calls, func(i int) impl.PlnCall { return impl.PlnCall{Seq: i} }, func(one impl.PlnCall, i int) bool { return one.Seq == i })
	scribbleOver(a.c.Got, impl.ClkGot{Has: true, Added: []int{-mark}})
	scribbleOver(a.says, impl.MsgMsg{Kind: mark})
	scribbleOver(a.results, impl.ResResult{Code: mark})
}

func scribbleOver[T any](list []T, with T) {
	for i := range list[:cap(list)] {
		list[:cap(list)][i] = with
	}
}

// memoryClerks have all that a clerk may have, or less.
func memoryClerks() []clerkCase {
	last := asker().turned(func(c *impl.ClkClerk) { c.Round = impl.PlnMaxRound })
	first := asker().turned(func(c *impl.ClkClerk) { c.Got[1] = impl.ClkGot{} })
	skips := asker().turned(func(c *impl.ClkClerk) { c.Wants[1].Seq = 9 })
	return []clerkCase{asker(), last, first, skips, asker().forgetful(), asker().down()}
}

// checkKeepsApart asks the same twice, and writes all over the answers meanwhile.
func checkKeepsApart(t *testing.T, name string, before clerkCase, ask func(c clerkCase) clerkAnswer, want clerkAnswer) {
	t.Helper()
	given := clerkCase{roomyPlan(before.p), roomyClerk(before.c)}
	for range 2 {
		got := ask(given)
		if !sameAnswer(got, want) {
			t.Fatalf("%s of %v is %v, not %v", name, before, got, want)
		}
		checkAnswerApart(t, name, got)
		checkPlanAsItWas(t, name, given.p, before.p)
		checkClerkAsItWas(t, name, given.c, before.c)
	}
}

func TestAnswersOfClkNewAreNewMemory(t *testing.T) {
	before := takers()
	for range 2 {
		p := roomyPlan(before)
		c := impl.ClkNew(p)
		if !slices.Equal(c.Base, before.Start) || len(c.Done) != before.Clients || len(c.Got) != len(before.Gives) {
			t.Fatalf("ClkNew is %v", c)
		}
		checkAnswerApart(t, "ClkNew", clerkAnswer{c: c})
		checkPlanAsItWas(t, "ClkNew", p, before)
	}
}

func TestAnswersOfClkFoldAreNewMemory(t *testing.T) {
	for _, before := range memoryClerks() {
		checkKeepsApart(t, "ClkFold", before, clerkCase.fold, before.foldByHand())
	}
}

func TestAnswersOfClkHearAreNewMemory(t *testing.T) {
	list := asker().c.Done
	for _, before := range memoryClerks() {
		for _, m := range []impl.MsgMsg{
			wants(call(1, 2, 1, 4, 4)), wants(call(1, 1, 1, 4, 4)), wants(call(0, 9, 1, 4, 4)),
			gives(1, 4, []int{1, 2, 0}, 0, 1, 0), gives(1, 5, []int{1, 2, 0}, 0, 1, 0), gives(0, 4, []int{0, 0, 1}, 2, 0, 0),
			freezes(0, 4), agrees(0, 5, []int{7, 8, 9}, list...),
		} {
			heard := roomyMessage(m)
			checkKeepsApart(t, "ClkHear", before, func(c clerkCase) clerkAnswer { return c.hear(heard) }, before.hearByHand(m))
			checkMessageAsItWas(t, "ClkHear", heard, m)
		}
	}
}

func TestAnswersOfClkTickAndClkFallAreNewMemory(t *testing.T) {
	for _, before := range memoryClerks() {
		ticks := clerkAnswer{says: before.tick()}
		checkKeepsApart(t, "ClkTick", before, func(c clerkCase) clerkAnswer { return clerkAnswer{says: c.tick()} }, ticks)
		for _, up := range []bool{true, false} {
			fallen := clerkAnswer{c: impl.ClkFall(before.p, before.c, up)}
			checkKeepsApart(t, "ClkFall", before, func(c clerkCase) clerkAnswer { return clerkAnswer{c: impl.ClkFall(c.p, c.c, up)} }, fallen)
		}
		asks := func(c clerkCase) clerkAnswer {
			impl.ClkReady(c.p, c.c)
			impl.ClkOk(c.p, c.c)
			return clerkAnswer{}
		}
		checkKeepsApart(t, "ClkReady", before, asks, clerkAnswer{})
	}
}

// Nothing runs on behind an answer, and calls at the same time do not get into each other's way.
func TestClerksLeaveNothingRunning(t *testing.T) {
	before := runtime.NumGoroutine()
	c := asker()
	want := c.foldByHand()
	var all sync.WaitGroup
	for range 8 {
		all.Go(func() {
			for range 200 {
				if got := c.fold(); !sameAnswer(got, want) {
					t.Errorf("ClkFold is %v, not %v", got, want)
				}
			}
		})
	}
	all.Wait()
	checkNothingRuns(t, before)
}
