package tests

import (
	"slices"
	"testing"

	"loop.example/concord/impl"
)

const mark = 77

// roomy is a copy of a list with marked spare room behind its end, as if it were the beginning of a longer one.
func roomy(list []int) []int {
	long := append(slices.Clone(list), mark, mark, mark, mark)
	return long[:len(list)]
}

func roomyForm(f impl.FrmForm) impl.FrmForm {
	return impl.FrmForm{C: roomy(f.C), D: roomy(f.D), K: f.K}
}

func roomIsMarked(list []int) bool {
	for _, n := range list[len(list):cap(list)][:4] {
		if n != mark {
			return false
		}
	}
	return true
}

// scribble fills a list and all its spare room.
func scribble(list []int) {
	all := list[:cap(list)]
	for i := range all {
		all[i] = -mark
	}
}

// checkNew asks that a call turns nothing that it is handed, and that writing all over one list of its answer turns neither the other one nor what was handed in.
func checkNew(t *testing.T, name string, call func() impl.FrmForm, given ...impl.FrmForm) {
	t.Helper()
	var before []impl.FrmForm
	for _, f := range given {
		before = append(before, impl.FrmForm{C: slices.Clone(f.C), D: slices.Clone(f.D), K: f.K})
	}
	answer := call()
	if !impl.FrmOk(answer) {
		t.Fatalf("%s: the answer is %v", name, answer)
	}
	d := slices.Clone(answer.D)
	scribble(answer.C)
	if !slices.Equal(d, answer.D) {
		t.Errorf("%s: both lists of the answer share memory", name)
	}
	scribble(answer.D)
	for i, f := range given {
		if !sameForm(f, before[i]) || !roomIsMarked(f.C) || !roomIsMarked(f.D) {
			t.Errorf("%s: what was handed in at %d is turned", name, i)
		}
	}
}

func TestAnswersOfFormsAreNewMemory(t *testing.T) {
	a, b := roomyForm(form(2, 0, -1, 0, 3, 4)), roomyForm(form(1, 1, 1, 1, 1, 1))
	zero := roomyForm(impl.FrmZero())
	list := []impl.FrmForm{b, a, b}
	checkNew(t, "FrmAdd", func() impl.FrmForm { return impl.FrmAdd(a, b) }, a, b)
	checkNew(t, "FrmAdd with zero", func() impl.FrmForm { return impl.FrmAdd(a, zero) }, a, zero)
	checkNew(t, "FrmTimes", func() impl.FrmForm { return impl.FrmTimes(a, 3) }, a)
	checkNew(t, "FrmTimes once", func() impl.FrmForm { return impl.FrmTimes(a, 1) }, a)
	checkNew(t, "FrmInto", func() impl.FrmForm { return impl.FrmInto(a, list) }, a, b)
	checkNew(t, "FrmInto without pots", func() impl.FrmForm { return impl.FrmInto(zero, list) }, zero, a, b)
	checkNew(t, "FrmZero", impl.FrmZero)
	checkNew(t, "FrmPot", func() impl.FrmForm { return impl.FrmPot(1) })
	checkNew(t, "FrmRead", func() impl.FrmForm {
		f, _ := impl.FrmRead("2x0 -1x2 3a1 4")
		return f
	})
}

// The list of forms that FrmInto is handed may be the beginning of a longer one, too.
func TestFrmIntoWritesNothingBehindTheForms(t *testing.T) {
	long := []impl.FrmForm{impl.FrmPot(0), impl.FrmPot(1), impl.FrmPot(2), form(mark, 0, 0, 0, 0, 0)}
	impl.FrmInto(form(1, 2, 3, 4, 5, 6), long[:3])
	if !sameForm(long[3], form(mark, 0, 0, 0, 0, 0)) {
		t.Errorf("behind the end stands %v", long[3])
	}
	for v := range 3 {
		if !sameForm(long[v], impl.FrmPot(v)) {
			t.Errorf("at %d stands %v", v, long[v])
		}
	}
}

// Nothing is kept from one call to the next, so what a caller does to an answer turns no later one.
func TestFormsKeepNothing(t *testing.T) {
	for range 2 {
		zero, pot := impl.FrmZero(), impl.FrmPot(2)
		if !sameForm(zero, form(0, 0, 0, 0, 0, 0)) || !sameForm(pot, form(0, 0, 1, 0, 0, 0)) {
			t.Fatalf("FrmZero is %v, FrmPot(2) is %v", zero, pot)
		}
		for _, f := range []impl.FrmForm{zero, pot} {
			scribble(f.C)
			scribble(f.D)
		}
	}
}

func TestAskingTurnsNoArgument(t *testing.T) {
	f := roomyForm(form(2, 0, -1, 0, 3, 4))
	vals, args := roomy([]int{5, 9, 1}), roomy([]int{0, 2})
	impl.FrmOk(f)
	impl.FrmText(f)
	impl.ValOk(vals)
	impl.ArgOk(args)
	impl.FrmAt(f, vals, args)
	if !sameForm(f, form(2, 0, -1, 0, 3, 4)) || !roomIsMarked(f.C) || !roomIsMarked(f.D) {
		t.Errorf("the form is %v", f)
	}
	if !slices.Equal(vals, []int{5, 9, 1}) || !roomIsMarked(vals) || !slices.Equal(args, []int{0, 2}) || !roomIsMarked(args) {
		t.Errorf("the pots have %v, the arguments are %v", vals, args)
	}
}
