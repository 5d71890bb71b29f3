package tests

import (
	"math"
	"slices"

	"loop.example/concord/impl"
)

func asking(skip int, f impl.FrmForm) impl.ActLine {
	return impl.ActLine{Kind: impl.ActTest, Skip: skip, Form: f}
}

func adding(pot int, f impl.FrmForm) impl.ActLine {
	return impl.ActLine{Kind: impl.ActAdd, Pot: pot, Form: f}
}

func telling(f impl.FrmForm) impl.ActLine {
	return impl.ActLine{Kind: impl.ActPrint, Form: f}
}

func stopping() impl.ActLine {
	return impl.ActLine{Kind: impl.ActStop}
}

func number(k int) impl.FrmForm {
	return form(0, 0, 0, 0, 0, k)
}

func pot(v int) impl.FrmForm {
	f := number(0)
	f.C[v] = 1
	return f
}

func sameLine(a, b impl.ActLine) bool {
	return a.Kind == b.Kind && a.Pot == b.Pot && a.Skip == b.Skip && sameForm(a.Form, b.Form)
}

func sameResult(a, b impl.ResResult) bool {
	return a.Code == b.Code && slices.Equal(a.Tells, b.Tells)
}

// smallForms have ActMaxCoef and ActMaxNum at both ends in each of their places, and turning ones.
func smallForms() []impl.FrmForm {
	const c, k = impl.ActMaxCoef, impl.ActMaxNum
	list := []impl.FrmForm{form(c, c, c, c, c, k), form(-c, -c, -c, -c, -c, -k), form(0, 0, 0, 0, 0, 0), form(1, 0, -1, 0, 1, 9)}
	for place := range 6 {
		for _, sign := range []int{1, -1} {
			one := make([]int, 6)
			one[place] = sign * c
			if place == 5 {
				one[place] = sign * k
			}
			list = append(list, formOf(one))
		}
	}
	t := &turning{state: 2}
	for range 20 {
		f := t.form(c)
		f.K = t.next(k)
		list = append(list, f)
	}
	return list
}

// unsmallForms are not ok, or ok and just beyond what a line may have, in one place.
func unsmallForms() []impl.FrmForm {
	const c, k = impl.ActMaxCoef, impl.ActMaxNum
	list := wrongForms()
	for place := range 6 {
		for _, sign := range []int{1, -1} {
			for _, n := range []int{c + 1, k + 1, impl.FrmMax} {
				one := make([]int, 6)
				one[place] = sign * n
				if place < 5 || n > k {
					list = append(list, formOf(one))
				}
			}
		}
	}
	return list
}

func okLines() []impl.ActLine {
	list := []impl.ActLine{stopping(), {Kind: impl.ActStop, Form: impl.FrmForm{C: []int{}, D: []int{}}}}
	for _, f := range smallForms() {
		list = append(list, telling(f))
		for v := range impl.FrmPots {
			list = append(list, adding(v, f))
		}
		for skip := 1; skip <= impl.ActMax; skip++ {
			list = append(list, asking(skip, f))
		}
	}
	return list
}

func wrongLines() []impl.ActLine {
	f := form(1, 0, -1, 0, 1, 9)
	var list []impl.ActLine
	for _, kind := range []int{0, 5, -1, impl.ActStop + 4, math.MaxInt, math.MinInt} {
		list = append(list, impl.ActLine{Kind: kind}, impl.ActLine{Kind: kind, Form: f},
			impl.ActLine{Kind: kind, Skip: 1, Form: f}, impl.ActLine{Kind: kind, Pot: 1, Form: f})
	}
	for _, skip := range []int{0, -1, impl.ActMax + 1, math.MaxInt, math.MinInt} {
		list = append(list, asking(skip, f))
	}
	for _, v := range []int{-1, impl.FrmPots, math.MaxInt, math.MinInt} {
		list = append(list, adding(v, f))
	}
	for _, n := range []int{1, 2, -1, impl.ActMax, math.MinInt} {
		list = append(list,
			impl.ActLine{Kind: impl.ActTest, Skip: 1, Pot: n, Form: f},
			impl.ActLine{Kind: impl.ActAdd, Pot: 1, Skip: n, Form: f},
			impl.ActLine{Kind: impl.ActPrint, Pot: n, Form: f},
			impl.ActLine{Kind: impl.ActPrint, Skip: n, Form: f},
			impl.ActLine{Kind: impl.ActStop, Pot: n},
			impl.ActLine{Kind: impl.ActStop, Skip: n})
	}
	for _, wrong := range unsmallForms() {
		list = append(list, asking(1, wrong), adding(0, wrong), telling(wrong))
	}
	for _, some := range []impl.FrmForm{f, impl.FrmZero(), {K: 1}, {K: -1}, {C: []int{0}}, {C: []int{0, 0, 0}}, {D: []int{0}}, {D: []int{0, 0}}} {
		list = append(list, impl.ActLine{Kind: impl.ActStop, Form: some})
	}
	return list
}

// someAct is an act of so many lines that is ok, with one of few small numbers in each place.
func (t *turning) someAct(size int) []impl.ActLine {
	var act []impl.ActLine
	tests := 0
	for range size {
		f := t.form(impl.ActMaxCoef)
		f.K = t.next(impl.ActMaxNum)
		kind := t.next(9)
		switch {
		case kind < -2 && tests < impl.ActMaxTest:
			tests++
			act = append(act, asking(1+(t.next(9)+9)%impl.ActMax, f))
		case kind < 4:
			act = append(act, adding(1+t.next(1), f))
		case kind < 9:
			act = append(act, telling(f))
		default:
			act = append(act, stopping())
		}
	}
	return act
}

func okActs() [][]impl.ActLine {
	list := [][]impl.ActLine{
		nil,
		{},
		{stopping()},
		{asking(1, number(0))},
		{asking(impl.ActMax, number(-1))},
		{asking(2, form(1, 0, 0, -1, 0, 0)), adding(0, form(0, 0, 0, -1, 0, 0)), telling(pot(0)), adding(1, number(1))},
		{telling(pot(0)), adding(0, number(1)), telling(pot(0)), adding(0, pot(0)), telling(pot(0)), telling(pot(1))},
		{asking(1, pot(0)), stopping(), asking(1, pot(1)), stopping(), asking(1, pot(2)), stopping()},
		{asking(1, pot(0)), asking(6, pot(1)), asking(2, pot(2)), telling(number(1)), telling(number(2)), telling(number(3))},
		slices.Repeat([]impl.ActLine{stopping()}, impl.ActMax),
		slices.Repeat([]impl.ActLine{telling(number(7))}, impl.ActMax),
		slices.Repeat([]impl.ActLine{adding(0, form(2, 2, 2, 2, 2, 20))}, impl.ActMax),
		slices.Repeat([]impl.ActLine{asking(1, number(-1))}, impl.ActMaxTest),
	}
	t := &turning{state: 3}
	for size := range impl.ActMax + 1 {
		for range 150 {
			list = append(list, t.someAct(size))
		}
	}
	return list
}

// wrongActs have too many lines or tests, or a line that is not ok, in each place.
func wrongActs() [][]impl.ActLine {
	list := [][]impl.ActLine{
		slices.Repeat([]impl.ActLine{stopping()}, impl.ActMax+1),
		slices.Repeat([]impl.ActLine{telling(number(1))}, impl.ActMax+1),
		slices.Repeat([]impl.ActLine{telling(number(1))}, 500),
		slices.Repeat([]impl.ActLine{asking(1, number(1))}, impl.ActMaxTest+1),
		slices.Repeat([]impl.ActLine{asking(1, number(1))}, impl.ActMax),
		{asking(1, number(1)), stopping(), asking(1, number(1)), asking(6, number(1)), stopping(), asking(1, number(1))},
	}
	for _, wrong := range wrongLines() {
		list = append(list, []impl.ActLine{wrong}, []impl.ActLine{stopping(), wrong},
			[]impl.ActLine{wrong, stopping()}, []impl.ActLine{asking(1, number(-1)), wrong, telling(number(1))})
	}
	return list
}

// doneByHand is what comes of an act that is ok.
func doneByHand(act []impl.ActLine, vals, args []int) (impl.ResResult, []int) {
	pots := slices.Clone(vals)
	var tells []int
	left := 0
	for _, l := range act {
		if left > 0 {
			left--
			continue
		}
		if l.Kind == impl.ActStop {
			return impl.ResResult{Code: impl.ResStopped}, slices.Clone(vals)
		}
		n := valueOf(l.Form, pots, args)
		if l.Kind == impl.ActTest && n < 0 {
			left = l.Skip
		}
		if l.Kind == impl.ActAdd {
			pots[l.Pot] += n
		}
		if l.Kind == impl.ActPrint {
			tells = append(tells, n)
		}
	}
	if !allIn(impl.ValMax, pots) {
		return impl.ResResult{Code: impl.ResOver}, slices.Clone(vals)
	}
	return impl.ResResult{Code: impl.ResDone, Tells: tells}, pots
}

func okResults() []impl.ResResult {
	const m = impl.ResMax
	list := []impl.ResResult{
		{Code: impl.ResDone},
		{Code: impl.ResDone, Tells: []int{}},
		{Code: impl.ResStopped},
		{Code: impl.ResStopped, Tells: []int{}},
		{Code: impl.ResOver},
		{Code: impl.ResDone, Tells: []int{0}},
		{Code: impl.ResDone, Tells: []int{-1, 10}},
		{Code: impl.ResDone, Tells: []int{m}},
		{Code: impl.ResDone, Tells: []int{-m}},
		{Code: impl.ResDone, Tells: slices.Repeat([]int{-m}, impl.ActMax)},
		{Code: impl.ResDone, Tells: []int{1, 2, 3, 4, 5, 6}},
	}
	t := &turning{state: 4}
	for range 60 {
		r := impl.ResResult{Code: impl.ResDone}
		for range (t.next(9) + 9) % (impl.ActMax + 1) {
			r.Tells = append(r.Tells, t.next(1000)*t.next(1000)*t.next(900000))
		}
		list = append(list, r)
	}
	return list
}

func wrongResults() []impl.ResResult {
	list := []impl.ResResult{
		{},
		{Tells: []int{1}},
		{Code: impl.ResStopped, Tells: []int{0}},
		{Code: impl.ResOver, Tells: []int{0}},
		{Code: impl.ResOver, Tells: []int{1, 2, 3}},
		{Code: impl.ResDone, Tells: make([]int, impl.ActMax+1)},
		{Code: impl.ResDone, Tells: make([]int, 300)},
	}
	for _, code := range []int{-1, impl.ResOver + 1, math.MaxInt, math.MinInt} {
		list = append(list, impl.ResResult{Code: code}, impl.ResResult{Code: code, Tells: []int{5}})
	}
	for _, n := range []int{impl.ResMax + 1, -impl.ResMax - 1, math.MaxInt, math.MinInt} {
		for place := range impl.ActMax {
			tells := make([]int, impl.ActMax)
			tells[place] = n
			list = append(list, impl.ResResult{Code: impl.ResDone, Tells: tells})
		}
	}
	return list
}
