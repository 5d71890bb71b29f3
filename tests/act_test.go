package tests

import (
	"slices"
	"testing"

	"loop.example/concord/impl"
)

// okByHand asks for no more than the numbers of lines and tests, and that each line has a text.
func okByHand(act []impl.ActLine) bool {
	tests := 0
	for _, l := range act {
		if impl.ActText(l) == "" {
			return false
		}
		if l.Kind == impl.ActTest {
			tests++
		}
	}
	return len(act) <= impl.ActMax && tests <= impl.ActMaxTest
}

func TestP61ActsThatAreOk(t *testing.T) {
	for _, act := range okActs() {
		for size := range len(act) + 1 {
			if !impl.ActOk(act[:size]) || !okByHand(act[:size]) {
				t.Fatalf("ActOk(%v) is %v", act[:size], impl.ActOk(act[:size]))
			}
		}
	}
	for _, l := range okLines() {
		if !impl.ActOk([]impl.ActLine{l}) || impl.ActText(l) == "" {
			t.Fatalf("the line %v is not ok", l)
		}
	}
}

func TestP61ActsThatAreNotOk(t *testing.T) {
	for _, act := range wrongActs() {
		if impl.ActOk(act) || okByHand(act) {
			t.Errorf("ActOk(%v) is %v", act, impl.ActOk(act))
		}
	}
}

// A wrong line spoils an act in each place, and no beginning ahead of it.
func TestP61OneWrongLine(t *testing.T) {
	wrong := impl.ActLine{Kind: impl.ActAdd, Pot: impl.FrmPots, Form: number(1)}
	for place := range impl.ActMax {
		act := slices.Repeat([]impl.ActLine{telling(number(1))}, impl.ActMax)
		act[place] = wrong
		for size := range impl.ActMax + 1 {
			if got := impl.ActOk(act[:size]); got != (size <= place) {
				t.Errorf("wrong at %d, %d lines: ActOk is %v", place, size, got)
			}
		}
	}
}

// Tests are counted wherever they stand, done or left out.
func TestP61HowManyTests(t *testing.T) {
	for bits := range 1 << impl.ActMax {
		var act []impl.ActLine
		tests := 0
		for place := range impl.ActMax {
			if bits>>place&1 == 1 {
				act = append(act, asking(1, number(-1)))
				tests++
			} else {
				act = append(act, stopping())
			}
		}
		if got := impl.ActOk(act); got != (tests <= impl.ActMaxTest) {
			t.Errorf("%d tests: ActOk(%v) is %v", tests, act, got)
		}
	}
}

func checkRun(t *testing.T, act []impl.ActLine, vals, args []int) int {
	t.Helper()
	r, pots := impl.ActRun(act, vals, args)
	want, wantPots := doneByHand(act, vals, args)
	if !sameResult(r, want) || !slices.Equal(pots, wantPots) {
		t.Fatalf("ActRun(%v, %v, %v) is %v and %v, not %v and %v", act, vals, args, r, pots, want, wantPots)
	}
	return r.Code
}

func TestActRun(t *testing.T) {
	codes := map[int]int{}
	for _, act := range okActs() {
		everywhere(func(vals, args []int) { codes[checkRun(t, act, vals, args)]++ })
		checkRun(t, act, []int{50, -7, 20}, []int{3, -4})
	}
	for _, code := range []int{impl.ResDone, impl.ResStopped, impl.ResOver} {
		if codes[code] < 1000 {
			t.Errorf("the code %d came only %d times", code, codes[code])
		}
	}
}

func TestActRunOfWhatIsNotOk(t *testing.T) {
	act, vals, args := []impl.ActLine{telling(number(1))}, []int{1, 1, 1}, []int{1, 1}
	check := func(act []impl.ActLine, vals, args []int) {
		t.Helper()
		if r, pots := impl.ActRun(act, vals, args); !sameResult(r, impl.ResResult{}) || len(pots) != 0 {
			t.Errorf("ActRun(%v, %v, %v) is %v and %v", act, vals, args, r, pots)
		}
	}
	for _, wrong := range wrongActs() {
		check(wrong, vals, args)
	}
	for _, some := range [][]impl.ActLine{act, nil, {stopping()}} {
		for _, wrong := range wrongVals() {
			check(some, wrong, args)
		}
		for _, wrong := range wrongArgs() {
			check(some, vals, wrong)
		}
	}
	// It is not ok even where the wrong line would be left out, or stand behind the stop.
	check([]impl.ActLine{stopping(), {Kind: 9}}, vals, args)
	check([]impl.ActLine{asking(1, number(-1)), {Kind: 9}}, vals, args)
}

type runCase struct {
	act        []impl.ActLine
	vals, args []int
	text       string
	pots       []int
}

func checkCases(t *testing.T, cases []runCase) {
	t.Helper()
	for _, c := range cases {
		r, pots := impl.ActRun(c.act, c.vals, c.args)
		if impl.ResText(r) != c.text || !slices.Equal(pots, c.pots) {
			t.Errorf("ActRun(%v, %v, %v) is %v and %v, not %s and %v", c.act, c.vals, c.args, r, pots, c.text, c.pots)
		}
	}
}

// A line takes its form at what the pots have then.
func TestActRunTakesPotsAsTheyAreThen(t *testing.T) {
	vals, args := []int{5, 6, 7}, []int{1, 2}
	checkCases(t, []runCase{
		{[]impl.ActLine{telling(pot(0)), adding(0, number(3)), telling(pot(0))}, vals, args, "done 5 8", []int{8, 6, 7}},
		{[]impl.ActLine{adding(0, pot(0)), adding(0, pot(0)), adding(0, pot(0))}, vals, args, "done", []int{40, 6, 7}},
		{[]impl.ActLine{adding(0, pot(1)), adding(1, pot(0)), adding(2, form(1, 1, 0, 0, 0, 0))}, vals, args, "done", []int{11, 17, 35}},
		{[]impl.ActLine{adding(0, number(-6)), asking(1, pot(0)), telling(number(1)), telling(number(2))}, vals, args, "done 2", []int{-1, 6, 7}},
		{[]impl.ActLine{adding(0, number(-5)), asking(1, pot(0)), telling(number(1)), telling(number(2))}, vals, args, "done 1 2", []int{0, 6, 7}},
		{[]impl.ActLine{telling(form(0, 0, 0, 1, 0, 0)), telling(form(0, 0, 0, 0, 1, 0)), telling(form(1, 2, -1, 2, -2, 20))}, vals, args, "done 1 2 28", []int{5, 6, 7}},
		{nil, vals, args, "done", []int{5, 6, 7}},
	})
}

// What is left out is so many lines, done or not, and at most all that are left.
func TestActRunLeavesOut(t *testing.T) {
	vals, args := []int{5, 6, 7}, []int{1, 2}
	tells := []impl.ActLine{telling(number(1)), telling(number(2)), telling(number(3)), telling(number(4)), telling(number(5))}
	texts := []string{"", "done 2 3 4 5", "done 3 4 5", "done 4 5", "done 5", "done", "done"}
	for skip := 1; skip <= impl.ActMax; skip++ {
		checkCases(t, []runCase{
			{append([]impl.ActLine{asking(skip, number(-1))}, tells...), vals, args, texts[skip], vals},
			{append([]impl.ActLine{asking(skip, number(0))}, tells...), vals, args, "done 1 2 3 4 5", vals},
			{[]impl.ActLine{asking(skip, number(-1))}, vals, args, "done", vals},
			{[]impl.ActLine{telling(number(9)), asking(skip, number(-1))}, vals, args, "done 9", vals},
		})
	}
	checkCases(t, []runCase{
		// A test that is left out leaves out nothing itself.
		{[]impl.ActLine{asking(1, number(-1)), asking(2, number(-1)), telling(number(1)), telling(number(2))}, vals, args, "done 1 2", vals},
		{[]impl.ActLine{asking(1, number(0)), asking(2, number(-1)), telling(number(1)), telling(number(2)), telling(number(3))}, vals, args, "done 3", vals},
		{[]impl.ActLine{asking(2, number(-1)), stopping(), adding(0, number(1)), telling(number(1))}, vals, args, "done 1", vals},
	})
}

// Between its lines a pot may have more than ValMax, or less; at the end it may not.
func TestActRunBetweenAndAtTheEnd(t *testing.T) {
	const m = impl.ValMax
	args := []int{0, 0}
	for v := range impl.FrmPots {
		high, low := make([]int, impl.FrmPots), make([]int, impl.FrmPots)
		high[v], low[v] = m-1, 1-m
		atTop, atBottom := slices.Clone(high), slices.Clone(low)
		atTop[v], atBottom[v] = m, -m
		checkCases(t, []runCase{
			{[]impl.ActLine{adding(v, number(1))}, high, args, "done", atTop},
			{[]impl.ActLine{adding(v, number(2))}, high, args, "over", high},
			{[]impl.ActLine{adding(v, number(-1))}, low, args, "done", atBottom},
			{[]impl.ActLine{adding(v, number(-2))}, low, args, "over", low},
			{[]impl.ActLine{adding(v, number(20)), telling(pot(v)), adding(v, number(-20))}, high, args, "done 10019", high},
			{[]impl.ActLine{adding(v, number(-20)), telling(pot(v)), adding(v, number(20))}, low, args, "done -10019", low},
			{[]impl.ActLine{telling(number(7)), adding(v, number(20)), telling(pot(v))}, high, args, "over", high},
			{[]impl.ActLine{adding(v, number(20)), stopping()}, high, args, "stopped", high},
		})
	}
}

func TestP62WhatTurnsNothing(t *testing.T) {
	checkTurnsNothing := func(act []impl.ActLine, vals, args []int) {
		r, pots := impl.ActRun(act, vals, args)
		if r.Code != impl.ResDone && (len(r.Tells) > 0 || !slices.Equal(pots, vals)) {
			t.Fatalf("ActRun(%v, %v, %v) is %v and %v", act, vals, args, r, pots)
		}
	}
	for _, act := range okActs() {
		everywhere(func(vals, args []int) { checkTurnsNothing(act, vals, args) })
	}
	vals, args := []int{5, 6, 7}, []int{1, 2}
	checkCases(t, []runCase{
		{[]impl.ActLine{adding(0, number(1)), telling(number(1)), stopping(), telling(number(2))}, vals, args, "stopped", vals},
		{[]impl.ActLine{asking(1, number(-1)), stopping(), adding(1, number(1)), stopping()}, vals, args, "stopped", vals},
		{[]impl.ActLine{adding(0, number(1)), adding(1, pot(2)), telling(pot(1))}, []int{3, 1, impl.ValMax}, args, "over", []int{3, 1, impl.ValMax}},
	})
}

func TestP63StopAhead(t *testing.T) {
	for _, act := range okActs() {
		if len(act) == impl.ActMax {
			continue
		}
		ahead := append([]impl.ActLine{stopping()}, act...)
		everywhere(func(vals, args []int) {
			r, pots := impl.ActRun(ahead, vals, args)
			if !sameResult(r, impl.ResResult{Code: impl.ResStopped}) || !slices.Equal(pots, vals) {
				t.Fatalf("ActRun(%v, %v, %v) is %v and %v", ahead, vals, args, r, pots)
			}
		})
	}
}

func TestP63StopAtTheEnd(t *testing.T) {
	reached, leftOut := 0, 0
	for _, act := range okActs() {
		if len(act) == impl.ActMax {
			continue
		}
		longer := append(slices.Clone(act), stopping())
		everywhere(func(vals, args []int) {
			before, beforePots := impl.ActRun(act, vals, args)
			r, pots := impl.ActRun(longer, vals, args)
			switch {
			case r.Code == impl.ResStopped && len(r.Tells) == 0 && slices.Equal(pots, vals):
				reached++
			case sameResult(r, before) && slices.Equal(pots, beforePots):
				leftOut++
			default:
				t.Fatalf("ActRun(%v, %v, %v) is %v and %v", longer, vals, args, r, pots)
			}
		})
	}
	if reached < 1000 || leftOut < 1000 {
		t.Errorf("it was reached %d times, and left out %d times", reached, leftOut)
	}
}

func TestP64FirstLineThatTestsANumber(t *testing.T) {
	for _, act := range okActs() {
		for _, k := range []int{0, 1, impl.ActMaxNum, -1, -impl.ActMaxNum} {
			checkFirstTest(t, act, k)
		}
	}
}

func checkFirstTest(t *testing.T, act []impl.ActLine, k int) {
	t.Helper()
	longer := append([]impl.ActLine{asking(1, number(k))}, act...)
	if !impl.ActOk(longer) {
		return
	}
	rest := act
	if k < 0 && len(act) > 0 {
		rest = act[1:]
	}
	for _, vals := range okVals() {
		args := []int{2, -3}
		r, pots := impl.ActRun(longer, vals, args)
		want, wantPots := impl.ActRun(rest, vals, args)
		if !sameResult(r, want) || !slices.Equal(pots, wantPots) {
			t.Fatalf("ActRun(%v, %v, %v) is %v and %v, not %v and %v", longer, vals, args, r, pots, want, wantPots)
		}
	}
}
