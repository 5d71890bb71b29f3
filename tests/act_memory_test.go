package tests

import (
	"slices"
	"testing"

	"loop.example/concord/impl"
)

func roomyAct(act []impl.ActLine) []impl.ActLine {
	var long []impl.ActLine
	for _, l := range act {
		l.Form = roomyForm(l.Form)
		long = append(long, l)
	}
	return append(long, impl.ActLine{Kind: mark}, impl.ActLine{Kind: mark})[:len(act)]
}

func checkActAsItWas(t *testing.T, act, before []impl.ActLine) {
	t.Helper()
	for i, l := range act {
		if !sameLine(l, before[i]) || !roomIsMarked(l.Form.C) || !roomIsMarked(l.Form.D) {
			t.Errorf("the line %d is %v, and was %v", i, l, before[i])
		}
	}
	for _, l := range act[len(act):cap(act)][:2] {
		if !sameLine(l, impl.ActLine{Kind: mark}) {
			t.Errorf("behind the end stands %v", l)
		}
	}
}

// Each of the three ends of an act hands out pots of its own, and what was handed in stays.
func TestAnswersOfActRunAreNewMemory(t *testing.T) {
	for _, lines := range [][]impl.ActLine{
		{},
		{telling(pot(0)), adding(1, number(2)), asking(1, number(-1)), stopping(), telling(pot(1))},
		{telling(pot(0)), adding(1, number(2)), stopping()},
		{telling(pot(0)), adding(1, number(2)), adding(2, pot(2))},
	} {
		act, vals, args := roomyAct(lines), roomy([]int{5, 6, 9000}), roomy([]int{1, 2})
		r, pots := impl.ActRun(act, vals, args)
		scribble(r.Tells)
		if want, wantPots := doneByHand(lines, vals, args); r.Code != want.Code || !slices.Equal(pots, wantPots) {
			t.Errorf("%v: the pots have %v, not %v", lines, pots, wantPots)
		}
		scribble(pots)
		checkActAsItWas(t, act, lines)
		if !slices.Equal(vals, []int{5, 6, 9000}) || !roomIsMarked(vals) || !slices.Equal(args, []int{1, 2}) || !roomIsMarked(args) {
			t.Errorf("%v: handed in were %v and %v", lines, vals, args)
		}
	}
}

func TestAskingTurnsNoActAndNoResult(t *testing.T) {
	lines := []impl.ActLine{asking(1, form(1, 0, 0, -1, 0, 0)), stopping(), adding(2, pot(1)), telling(form(1, 2, -1, 2, -2, 20))}
	act := roomyAct(lines)
	impl.ActOk(act)
	for _, l := range act {
		impl.ActText(l)
	}
	checkActAsItWas(t, act, lines)
	tells := roomy([]int{1, 2, 3})
	impl.ResText(impl.ResResult{Code: impl.ResDone, Tells: tells})
	if !slices.Equal(tells, []int{1, 2, 3}) || !roomIsMarked(tells) {
		t.Errorf("what was told is %v", tells)
	}
}

// Nothing is kept: what a caller does to what was read turns nothing that is read later.
func TestWhatIsReadIsNewMemory(t *testing.T) {
	for range 2 {
		l, _ := impl.ActRead("add 1 2x0 -1a1 3")
		if !sameLine(l, adding(1, form(2, 0, 0, 0, -1, 3))) {
			t.Fatalf("the line is %v", l)
		}
		scribble(l.Form.C)
		if !slices.Equal(l.Form.D, []int{0, -1}) {
			t.Errorf("both lists of the form share memory")
		}
		scribble(l.Form.D)
		r, _ := impl.ResRead("done 1 2")
		if !slices.Equal(r.Tells, []int{1, 2}) {
			t.Fatalf("the result is %v", r)
		}
		scribble(r.Tells)
	}
}
