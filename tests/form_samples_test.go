package tests

import (
	"math"
	"slices"

	"loop.example/concord/impl"
)

func form(c0, c1, c2, d0, d1, k int) impl.FrmForm {
	return impl.FrmForm{C: []int{c0, c1, c2}, D: []int{d0, d1}, K: k}
}

// numbersOf lays a form out in one row, so that tests need not go by its parts.
func numbersOf(f impl.FrmForm) []int {
	return append(append(append([]int{}, f.C...), f.D...), f.K)
}

func sameForm(a, b impl.FrmForm) bool {
	return slices.Equal(a.C, b.C) && slices.Equal(a.D, b.D) && a.K == b.K
}

func isNothing(f impl.FrmForm) bool {
	return len(f.C) == 0 && len(f.D) == 0 && f.K == 0
}

func allIn(limit int, numbers []int) bool {
	for _, n := range numbers {
		if n < -limit || n > limit {
			return false
		}
	}
	return true
}

// valueOf is a form's value by hand, at numbers that need not be ok.
func valueOf(f impl.FrmForm, vals, args []int) int {
	sum := f.K
	for i, n := range f.C {
		sum += n * vals[i]
	}
	for i, n := range f.D {
		sum += n * args[i]
	}
	return sum
}

// turning is a fixed row of numbers in -limit..limit, the same in each run.
type turning struct{ state uint64 }

func (t *turning) next(limit int) int {
	t.state = t.state*6364136223846793005 + 1442695040888963407
	return int((t.state>>33)%uint64(2*limit+1)) - limit
}

func (t *turning) form(limit int) impl.FrmForm {
	return form(t.next(limit), t.next(limit), t.next(limit), t.next(limit), t.next(limit), t.next(limit))
}

func okForms() []impl.FrmForm {
	const m = impl.FrmMax
	list := []impl.FrmForm{
		form(0, 0, 0, 0, 0, 0),
		form(1, 0, 0, 0, 0, 0),
		form(0, -1, 0, 0, 0, 0),
		form(0, 0, 1, 0, -1, 7),
		form(2, 0, -1, 0, 3, 4),
		form(0, 0, 0, 1, 0, -20),
		form(10, 100, -1000, 20, -30, 9),
		form(m, m, m, m, m, m),
		form(-m, -m, -m, -m, -m, -m),
		form(m, -m, 0, 0, m, -m),
		form(1-m, 0, m-1, 1, 0, 1),
		form(m/2, -m/2, m/2, m/2, m/2, -m/2),
	}
	t := &turning{state: 1}
	for range 12 {
		list = append(list, t.form(3), t.form(1000), t.form(m))
	}
	return list
}

func wrongForms() []impl.FrmForm {
	const m = impl.FrmMax
	list := []impl.FrmForm{
		{},
		{K: 1},
		{C: []int{0, 0, 0}},
		{D: []int{0, 0}},
		{C: []int{0, 0}, D: []int{0, 0}},
		{C: []int{0, 0, 0, 0}, D: []int{0, 0}},
		{C: []int{0, 0, 0}, D: []int{0}},
		{C: []int{0, 0, 0}, D: []int{0, 0, 0}},
		{C: []int{0, 0}, D: []int{0, 0, 0}},
	}
	for _, n := range []int{m + 1, -m - 1, math.MaxInt, math.MinInt} {
		list = append(list, form(n, 0, 0, 0, 0, 0), form(0, n, 0, 0, 0, 0), form(0, 0, n, 0, 0, 0),
			form(0, 0, 0, n, 0, 0), form(0, 0, 0, 0, n, 0), form(0, 0, 0, 0, 0, n))
	}
	return list
}

func okVals() [][]int {
	const m = impl.ValMax
	return [][]int{{0, 0, 0}, {1, 2, 3}, {-5, 9, 1}, {m, m, m}, {-m, -m, -m}, {m, -m, m - 1}, {1, 0, 0}, {0, 1, 0}, {0, 0, 1}}
}

func okArgs() [][]int {
	const m = impl.ArgMax
	return [][]int{{0, 0}, {1, 2}, {m, m}, {-m, -m}, {-m, m}, {0, 1}, {1, 0}}
}

func wrongVals() [][]int {
	return wrongLists(impl.FrmPots, impl.ValMax)
}

func wrongArgs() [][]int {
	return wrongLists(impl.FrmArgs, impl.ArgMax)
}

// wrongLists are too short or too long, or have in one place what is just beyond the limit, or far beyond.
func wrongLists(size, limit int) [][]int {
	list := [][]int{nil, {}, make([]int, size-1), make([]int, size+1), make([]int, 1000)}
	for place := range size {
		for _, n := range []int{limit + 1, -limit - 1, math.MaxInt, math.MinInt} {
			one := make([]int, size)
			one[place] = n
			list = append(list, one)
		}
	}
	return list
}
