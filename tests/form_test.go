package tests

import (
	"math"
	"slices"
	"strings"
	"testing"

	"loop.example/concord/impl"
)

// everywhere goes through all samples of what pots have and arguments that are ok.
func everywhere(do func(vals, args []int)) {
	for _, vals := range okVals() {
		for _, args := range okArgs() {
			do(vals, args)
		}
	}
}

func mustAt(t *testing.T, f impl.FrmForm, vals, args []int) int {
	t.Helper()
	n, ok := impl.FrmAt(f, vals, args)
	if !ok {
		t.Fatalf("FrmAt(%v, %v, %v) is false", f, vals, args)
	}
	return n
}

func TestFrmOk(t *testing.T) {
	for _, f := range okForms() {
		if !impl.FrmOk(f) {
			t.Errorf("FrmOk(%v) is false", f)
		}
	}
	for _, f := range wrongForms() {
		if impl.FrmOk(f) {
			t.Errorf("FrmOk(%v) is true", f)
		}
	}
}

func TestFrmZero(t *testing.T) {
	if z := impl.FrmZero(); !sameForm(z, form(0, 0, 0, 0, 0, 0)) {
		t.Fatalf("FrmZero is %v", z)
	}
}

func TestFrmAt(t *testing.T) {
	for _, f := range okForms() {
		everywhere(func(vals, args []int) {
			if got, want := mustAt(t, f, vals, args), valueOf(f, vals, args); got != want {
				t.Fatalf("FrmAt(%v, %v, %v) is %d, not %d", f, vals, args, got, want)
			}
		})
	}
}

func TestFrmAtOfWhatIsNotOk(t *testing.T) {
	f, vals, args := form(1, 1, 1, 1, 1, 1), []int{1, 1, 1}, []int{1, 1}
	check := func(f impl.FrmForm, vals, args []int) {
		t.Helper()
		if n, ok := impl.FrmAt(f, vals, args); n != 0 || ok {
			t.Errorf("FrmAt(%v, %v, %v) is %d and %v", f, vals, args, n, ok)
		}
	}
	for _, wrong := range wrongForms() {
		check(wrong, vals, args)
	}
	for _, wrong := range wrongVals() {
		check(f, wrong, args)
	}
	for _, wrong := range wrongArgs() {
		check(f, vals, wrong)
	}
}

func TestP66Sum(t *testing.T) {
	for _, a := range okForms() {
		for _, b := range okForms() {
			checkSum(t, a, b)
		}
	}
}

func checkSum(t *testing.T, a, b impl.FrmForm) {
	t.Helper()
	want := numbersOf(a)
	for i, n := range numbersOf(b) {
		want[i] += n
	}
	sum := impl.FrmAdd(a, b)
	if !sameForm(sum, impl.FrmAdd(b, a)) {
		t.Fatalf("FrmAdd hangs on the order of %v and %v", a, b)
	}
	if !allIn(impl.FrmMax, want) {
		if !isNothing(sum) {
			t.Fatalf("FrmAdd(%v, %v) is %v, not nothing", a, b, sum)
		}
		return
	}
	if !slices.Equal(numbersOf(sum), want) {
		t.Fatalf("FrmAdd(%v, %v) is %v", a, b, sum)
	}
	everywhere(func(vals, args []int) {
		if mustAt(t, sum, vals, args) != mustAt(t, a, vals, args)+mustAt(t, b, vals, args) {
			t.Fatalf("FrmAt of the sum of %v and %v at %v, %v", a, b, vals, args)
		}
	})
}

func TestP66SumAtTheLimit(t *testing.T) {
	const m = impl.FrmMax
	for place := range 6 {
		for _, sign := range []int{1, -1} {
			a, b, c := make([]int, 6), make([]int, 6), make([]int, 6)
			a[place], b[place], c[place] = sign*(m-1), sign*1, sign*2
			if sum := impl.FrmAdd(formOf(a), formOf(b)); !impl.FrmOk(sum) || numbersOf(sum)[place] != sign*m {
				t.Errorf("%v and %v: %v", a, b, sum)
			}
			if sum := impl.FrmAdd(formOf(a), formOf(c)); !isNothing(sum) {
				t.Errorf("%v and %v: %v", a, c, sum)
			}
		}
	}
}

func formOf(n []int) impl.FrmForm {
	return form(n[0], n[1], n[2], n[3], n[4], n[5])
}

func TestP66SumOfWhatIsNotOk(t *testing.T) {
	for _, wrong := range wrongForms() {
		for _, f := range append(okForms(), wrongForms()...) {
			if sum := impl.FrmAdd(f, wrong); !isNothing(sum) {
				t.Fatalf("FrmAdd(%v, %v) is %v", f, wrong, sum)
			}
			if sum := impl.FrmAdd(wrong, f); !isNothing(sum) {
				t.Fatalf("FrmAdd(%v, %v) is %v", wrong, f, sum)
			}
		}
	}
}

func TestP67Times(t *testing.T) {
	const m = impl.FrmMax
	for _, f := range okForms() {
		for _, n := range []int{0, 1, -1, 2, -2, 3, 10, -1000, m / 2, m - 1, m, 1 - m, -m} {
			checkTimes(t, f, n)
		}
	}
}

func checkTimes(t *testing.T, f impl.FrmForm, n int) {
	t.Helper()
	want := numbersOf(f)
	for i := range want {
		want[i] *= n
	}
	got := impl.FrmTimes(f, n)
	if !allIn(impl.FrmMax, want) {
		if !isNothing(got) {
			t.Fatalf("FrmTimes(%v, %d) is %v, not nothing", f, n, got)
		}
		return
	}
	if !slices.Equal(numbersOf(got), want) {
		t.Fatalf("FrmTimes(%v, %d) is %v", f, n, got)
	}
	everywhere(func(vals, args []int) {
		if mustAt(t, got, vals, args) != n*mustAt(t, f, vals, args) {
			t.Fatalf("FrmAt of %d times %v at %v, %v", n, f, vals, args)
		}
	})
}

func TestP67MinusOneTimesAddedIsZero(t *testing.T) {
	for _, f := range okForms() {
		if sum := impl.FrmAdd(f, impl.FrmTimes(f, -1)); !sameForm(sum, impl.FrmZero()) {
			t.Errorf("%v and -1 times it: %v", f, sum)
		}
	}
}

func TestP67TimesOfWhatIsNotOk(t *testing.T) {
	for _, n := range []int{impl.FrmMax + 1, -impl.FrmMax - 1, math.MaxInt, math.MinInt} {
		for _, f := range []impl.FrmForm{impl.FrmZero(), impl.FrmPot(0), form(2, 2, 2, 2, 2, 2)} {
			if got := impl.FrmTimes(f, n); !isNothing(got) {
				t.Errorf("FrmTimes(%v, %d) is %v", f, n, got)
			}
		}
	}
	for _, f := range wrongForms() {
		for _, n := range []int{0, 1, -1, 2, impl.FrmMax, math.MinInt} {
			if got := impl.FrmTimes(f, n); !isNothing(got) {
				t.Errorf("FrmTimes(%v, %d) is %v", f, n, got)
			}
		}
	}
}

func TestP68Into(t *testing.T) {
	forms := okForms()
	row := &turning{state: 2}
	pick := func() impl.FrmForm { return forms[len(forms)/2+row.next(len(forms)/2-1)] }
	for _, f := range forms {
		for range 40 {
			checkInto(t, f, []impl.FrmForm{pick(), pick(), pick()})
			checkInto(t, f, []impl.FrmForm{row.form(2), row.form(2), row.form(2)})
		}
	}
	for range 200 {
		checkInto(t, row.form(2), []impl.FrmForm{row.form(9), row.form(9), row.form(9)})
	}
}

func checkInto(t *testing.T, f impl.FrmForm, pots []impl.FrmForm) {
	t.Helper()
	want := numbersOf(impl.FrmForm{C: []int{0, 0, 0}, D: f.D, K: f.K})
	for v, pot := range pots {
		for i, n := range numbersOf(pot) {
			want[i] += f.C[v] * n
		}
	}
	got := impl.FrmInto(f, pots)
	if !allIn(impl.FrmMax, want) {
		if !isNothing(got) {
			t.Fatalf("FrmInto(%v, %v) is %v, not nothing", f, pots, got)
		}
		return
	}
	if !slices.Equal(numbersOf(got), want) {
		t.Fatalf("FrmInto(%v, %v) is %v, not %v", f, pots, got, want)
	}
	everywhere(func(vals, args []int) {
		inner := []int{mustAt(t, pots[0], vals, args), mustAt(t, pots[1], vals, args), mustAt(t, pots[2], vals, args)}
		n := mustAt(t, got, vals, args)
		if n != valueOf(f, inner, args) {
			t.Fatalf("FrmAt of FrmInto(%v, %v) at %v, %v", f, pots, vals, args)
		}
		if m, ok := impl.FrmAt(f, inner, args); ok && n != m {
			t.Fatalf("FrmAt of FrmInto(%v, %v) at %v, %v is not FrmAt at %v", f, pots, vals, args, inner)
		}
	})
}

func TestP68IntoOfThePotsThemselves(t *testing.T) {
	pots := []impl.FrmForm{impl.FrmPot(0), impl.FrmPot(1), impl.FrmPot(2)}
	for _, f := range okForms() {
		if got := impl.FrmInto(f, pots); !sameForm(got, f) {
			t.Errorf("FrmInto(%v, the pots) is %v", f, got)
		}
	}
}

// Only what comes must be ok: what is added up on the way may be beyond the limit.
func TestP68IntoBeyondTheLimitOnTheWay(t *testing.T) {
	const m = impl.FrmMax
	great := form(m, -m, m, -m, m, m)
	got := impl.FrmInto(form(m, -m, 1, 0, 0, 0), []impl.FrmForm{great, great, form(0, 0, 0, 0, 0, 5)})
	if !sameForm(got, form(0, 0, 0, 0, 0, 5)) {
		t.Errorf("it is %v", got)
	}
	got = impl.FrmInto(form(1, 0, 0, 1, 0, 1), []impl.FrmForm{form(0, 0, 0, m, 0, 0), impl.FrmZero(), impl.FrmZero()})
	if !isNothing(got) {
		t.Errorf("beyond the limit by the form's own argument: %v", got)
	}
	got = impl.FrmInto(form(1, 0, 0, -1, 0, 1), []impl.FrmForm{form(0, 0, 0, -m+1, 0, m-1), impl.FrmZero(), impl.FrmZero()})
	if !sameForm(got, form(0, 0, 0, -m, 0, m)) {
		t.Errorf("at the limit: %v", got)
	}
}

func TestP68IntoOfWhatIsNotOk(t *testing.T) {
	one := func() impl.FrmForm { return impl.FrmPot(0) }
	for _, pots := range [][]impl.FrmForm{nil, {}, {one()}, {one(), one()}, {one(), one(), one(), one()}} {
		if got := impl.FrmInto(form(1, 0, 0, 0, 0, 0), pots); !isNothing(got) {
			t.Errorf("with %d forms: %v", len(pots), got)
		}
	}
	for _, wrong := range wrongForms() {
		if got := impl.FrmInto(wrong, []impl.FrmForm{one(), one(), one()}); !isNothing(got) {
			t.Errorf("FrmInto of %v: %v", wrong, got)
		}
		for place := range 3 {
			pots := []impl.FrmForm{one(), one(), one()}
			pots[place] = wrong
			if got := impl.FrmInto(impl.FrmZero(), pots); !isNothing(got) {
				t.Errorf("FrmInto with %v at %d: %v", wrong, place, got)
			}
		}
	}
}

func TestP69Pot(t *testing.T) {
	for v := range impl.FrmPots {
		f := impl.FrmPot(v)
		want := make([]int, 6)
		want[v] = 1
		if !slices.Equal(numbersOf(f), want) {
			t.Errorf("FrmPot(%d) is %v", v, f)
		}
		everywhere(func(vals, args []int) {
			if n := mustAt(t, f, vals, args); n != vals[v] {
				t.Errorf("FrmPot(%d) at %v is %d", v, vals, n)
			}
		})
	}
	for _, v := range []int{-1, impl.FrmPots, impl.FrmPots + 1, math.MaxInt, math.MinInt} {
		if f := impl.FrmPot(v); !isNothing(f) {
			t.Errorf("FrmPot(%d) is %v", v, f)
		}
	}
}

func TestP70TextAndBack(t *testing.T) {
	for _, f := range okForms() {
		s := impl.FrmText(f)
		g, ok := impl.FrmRead(s)
		if s == "" || !ok || !sameForm(f, g) {
			t.Errorf("%v is %q and read back %v, %v", f, s, g, ok)
		}
	}
	for _, f := range wrongForms() {
		if s := impl.FrmText(f); s != "" {
			t.Errorf("FrmText(%v) is %q", f, s)
		}
	}
}

func TestP70WhatStandsInAText(t *testing.T) {
	const m = impl.FrmMax
	texts := []struct {
		f impl.FrmForm
		s string
	}{
		{form(0, 0, 0, 0, 0, 0), "0"},
		{form(0, 0, 0, 0, 0, -7), "-7"},
		{form(0, 1, 0, 0, 0, 0), "1x1 0"},
		{form(2, 0, -1, 0, 3, 4), "2x0 -1x2 3a1 4"},
		{form(0, 0, 0, -1, 10, 0), "-1a0 10a1 0"},
		{form(1, 2, 3, 4, 5, 6), "1x0 2x1 3x2 4a0 5a1 6"},
		{form(m, -m, m, -m, m, m), "10000000x0 -10000000x1 10000000x2 -10000000a0 10000000a1 10000000"},
		{form(-m, -m, -m, -m, -m, -m), "-10000000x0 -10000000x1 -10000000x2 -10000000a0 -10000000a1 -10000000"},
	}
	for _, x := range texts {
		if s := impl.FrmText(x.f); s != x.s {
			t.Errorf("FrmText(%v) is %q, not %q", x.f, s, x.s)
		}
		if f, ok := impl.FrmRead(x.s); !ok || !sameForm(f, x.f) {
			t.Errorf("FrmRead(%q) is %v and %v", x.s, f, ok)
		}
	}
}

// wrongTexts are near to texts of forms, and none of one.
func wrongTexts() []string {
	return []string{
		"", " ", "  ", "x", "a", "x0", "a0", "-", "+", "-x0 0", "k", "\x00", "\xff",
		"00", "-0", "+0", "+1", "01", "-01", "1.0", "1e3", "0x1", "1_000", "1,0", "--1", "- 1", "1-",
		" 0", "0 ", "0 0", "1 2", "1x0", "1a0", "1x0 ", "1x0  0", " 1x0 0", "1x0 0 ", "1x0\t0", "1x0\n0", "0\n",
		"1x0 1x1", "1x0 1a0", "1x0 0 1x1", "0 1x0",
		"0x0 0", "-0x0 0", "0x1 0", "1x0 0x1 0", "0a0 0", "1a0 0a1 0",
		"01x0 0", "+1x0 0", "1x00 0", "1x+0 0", "1x-0 0", "-01a1 0", "--1x0 0", "1x0 -0", "1x0 +1", "1x0 00",
		"1x3 0", "1x-1 0", "1a2 0", "1a-1 0", "1x 0", "1a 0", "x1 0", "a1 0", "1x9223372036854775808 0",
		"1x1 1x0 0", "1a0 1x0 0", "1a1 1a0 0", "1x0 1a0 1x1 0", "1x0 1x0 0", "1x0 2x0 0", "1a1 1a1 0",
		"1X0 0", "1A0 0", "1b0 0", "1y0 0", "1x0a0 0", "1a0x0 0", "1xx0 0", "1ax0 0", "1x0x 0",
		"10000001", "-10000001", "10000001x0 0", "-10000001x2 0", "10000001a0 0", "-10000001a1 0",
		"9223372036854775807", "-9223372036854775808", "9223372036854775808", "18446744073709551616", "18446744073709551616x0 0",
		"1x0 1x1 1x2 1a0 1a1 1 1", "1x0 1x1 1x2 1x3 0", "1x0 1x1 1x2 1a0 1a1",
		strings.Repeat("0", 119) + "1", strings.Repeat("0", 120) + "1",
		"1x0 " + strings.Repeat(" ", 115) + "0", "1x0 " + strings.Repeat(" ", 116) + "0",
		strings.Repeat("1", 120), strings.Repeat("1", 121), strings.Repeat("1x0 ", 100000) + "0",
	}
}

func TestP70TextsOfNoForm(t *testing.T) {
	for _, s := range wrongTexts() {
		if f, ok := impl.FrmRead(s); ok || !isNothing(f) {
			t.Errorf("FrmRead(%.130q) is %v and %v", s, f, ok)
		}
	}
}

// Whatever is done to a text: what FrmRead reads has just that text, and the rest is none.
func TestP70TextOfWhatIsRead(t *testing.T) {
	const bytes = "0179xa- +\x00"
	for _, f := range okForms() {
		s := impl.FrmText(f)
		for place := range len(s) {
			checkRead(t, s[:place]+s[place+1:])
			checkRead(t, s[:place])
			for _, b := range []byte(bytes) {
				checkRead(t, s[:place]+string([]byte{b})+s[place+1:])
				checkRead(t, s[:place]+string([]byte{b})+s[place:])
			}
		}
	}
}

func checkRead(t *testing.T, s string) {
	t.Helper()
	f, ok := impl.FrmRead(s)
	if ok && (!impl.FrmOk(f) || impl.FrmText(f) != s) {
		t.Fatalf("FrmRead(%q) is %v, whose text is %q", s, f, impl.FrmText(f))
	}
	if !ok && !isNothing(f) {
		t.Fatalf("FrmRead(%q) is false, and %v", s, f)
	}
}

func TestP71ValOkAndArgOk(t *testing.T) {
	checkOkLists(t, "ValOk", impl.ValOk, okVals(), wrongVals())
	checkOkLists(t, "ArgOk", impl.ArgOk, okArgs(), wrongArgs())
}

func checkOkLists(t *testing.T, name string, ok func([]int) bool, right, wrong [][]int) {
	t.Helper()
	for _, list := range right {
		if !ok(list) {
			t.Errorf("%s(%v) is false", name, list)
		}
	}
	for _, list := range wrong {
		if ok(list) {
			t.Errorf("%s(%v) is true", name, list)
		}
	}
}

func TestP71EachAlone(t *testing.T) {
	checkEachAlone(t, "ValOk", impl.ValOk, impl.FrmPots, impl.ValMax)
	checkEachAlone(t, "ArgOk", impl.ArgOk, impl.FrmArgs, impl.ArgMax)
}

func checkEachAlone(t *testing.T, name string, ok func([]int) bool, size, limit int) {
	t.Helper()
	row := &turning{state: 3}
	for range 3000 {
		list := make([]int, size)
		want := true
		for i := range list {
			list[i] = row.next(limit + limit/3)
			alone := make([]int, size)
			alone[i] = list[i]
			want = want && ok(alone)
		}
		if ok(list) != want || want != allIn(limit, list) {
			t.Fatalf("%s(%v) is %v", name, list, ok(list))
		}
		if ok(list[:size-1]) || ok(append(slices.Clone(list), 0)) {
			t.Fatalf("%s takes %v with one less or more", name, list)
		}
	}
}
