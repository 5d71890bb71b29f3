package tests

import (
	"runtime"
	"slices"
	"sync"
	"testing"

	"loop.example/concord/impl"
)

// roomyTexts is a copy with marked spare room behind its end.
func roomyTexts(list []string) []string {
	return append(slices.Clone(list), "mark", "mark")[:len(list)]
}

func checkTextsAsTheyWere(t *testing.T, name string, list, before []string) {
	t.Helper()
	if !slices.Equal(list, before) || !slices.Equal(list[:len(list)+2][len(list):], []string{"mark", "mark"}) {
		t.Errorf("%s: the lines are %q, and were %q", name, list[:len(list)+2], before)
	}
}

func TestAnswersOfPlnParseAreNewMemory(t *testing.T) {
	for _, before := range [][]string{example(), {"clients 4", "gives 1 2 3", "start 4 5 6", "act", "act", "stop", "stop", "act", "test 1 1x0 0", "print 1x0 0"}} {
		lines := roomyTexts(before)
		for range 2 {
			p, wrong := impl.PlnParse(lines)
			if wrong != 0 || !samePlan(p, readByHand(before)) {
				t.Fatalf("PlnParse of %q is %v and %d", before, p, wrong)
			}
			numbers := [][]int{p.Gives, p.Start}
			for _, act := range p.Acts {
				for _, l := range act {
					numbers = append(numbers, l.Form.C, l.Form.D)
				}
			}
			checkNumbersApart(t, "PlnParse", numbers)
			checkApart(t, "PlnParse", p.Acts, func(i int) impl.ActLine { return impl.ActLine{Kind: i} }, func(l impl.ActLine, i int) bool { return l.Kind == i })
			scribbleOver(p.Acts, []impl.ActLine{{Kind: -mark}})
			checkTextsAsTheyWere(t, "PlnParse", lines, before)
		}
	}
}

func TestAnswersOfPlnPrintAreNewMemory(t *testing.T) {
	p := roomyPlan(takers())
	for range 2 {
		lines := impl.PlnPrint(p)
		if !slices.Equal(lines, printByHand(takers())) {
			t.Fatalf("PlnPrint is %q", lines)
		}
		scribbleOver(lines, "mark")
		checkPlanAsItWas(t, "PlnPrint", p, takers())
	}
}

func TestAnswersOfDskEventAreNewMemory(t *testing.T) {
	for range 2 {
		e, ok := impl.DskEvent("call 2 1 8 -9")
		if !ok || !sameEvent(e, calling(2, 1, 8, -9)) {
			t.Fatalf("DskEvent is %v and %v", e, ok)
		}
		scribble(e.Args)
	}
}

func TestAnswersOfDskBoardAreNewMemory(t *testing.T) {
	for _, before := range append(memoryWorlds(), spread(7, 6, 7)) {
		w := roomyWorld(before)
		for range 2 {
			lines := impl.DskBoard(w)
			if !slices.Equal(lines, boardByHand(before)) {
				t.Fatalf("DskBoard is %q", lines)
			}
			scribbleOver(lines, "mark")
			checkWorldAsItWas(t, "DskBoard", w, before)
		}
	}
}

func TestAnswersOfDskRunAreNewMemory(t *testing.T) {
	for _, c := range []struct{ plan, lines []string }{
		{example(), exampleLines()},
		{example(), nil},
		{example(), append(exampleLines(), "none", "")},
		{example(), slices.Repeat([]string{"tick"}, impl.DskMaxLines+1)},
		{example()[:3], exampleLines()},
		{nil, nil},
	} {
		plan, lines := roomyTexts(c.plan), roomyTexts(c.lines)
		first := slices.Clone(impl.DskRun(plan, lines))
		for range 2 {
			out := impl.DskRun(plan, lines)
			if len(out) == 0 || !slices.Equal(out, first) {
				t.Fatalf("DskRun of %q and %q is %q, and was %q", c.plan, c.lines, out, first)
			}
			scribbleOver(out, "mark")
			checkTextsAsTheyWere(t, "DskRun", plan, c.plan)
			checkTextsAsTheyWere(t, "DskRun", lines, c.lines)
		}
	}
}

// Nothing runs on behind an answer, and calls at the same time do not get into each other's way.
func TestRunsLeaveNothingRunning(t *testing.T) {
	before := runtime.NumGoroutine()
	plan, lines := example(), exampleLines()
	want := runByHand(plan, lines)
	var all sync.WaitGroup
	for range 8 {
		all.Go(func() {
			for range 20 {
				if out := impl.DskRun(plan, lines); !slices.Equal(out, want) {
					t.Errorf("DskRun is %q, not %q", out, want)
				}
			}
		})
	}
	all.Wait()
	checkNothingRuns(t, before)
}
