package tests

import (
	"math"
	"slices"

	"loop.example/concord/impl"
)

func treaty(base []int, gives ...int) impl.TrtTreaty {
	return impl.TrtTreaty{Base: base, Gives: gives}
}

// okTreaties have 1 to TrtMaxSites sites, with Gives and Base at both ends, and turning ones.
func okTreaties() []impl.TrtTreaty {
	const g, v = impl.TrtMaxGive, impl.ValMax
	var list []impl.TrtTreaty
	for _, base := range okVals() {
		for _, gives := range [][]int{{0}, {g}, {7}, {0, 0}, {g, 0}, {0, g}, {10, 6}, {0, 0, 0}, {g, g, g}, {3, 0, 5}, {1, 2, 4}} {
			list = append(list, treaty(base, gives...))
		}
	}
	turn := &turning{state: 20}
	for range 60 {
		list = append(list, turn.treaty(v))
	}
	return list
}

// treaty has Base in -limit..limit, and Gives that are small more often than not.
func (t *turning) treaty(limit int) impl.TrtTreaty {
	some := impl.TrtTreaty{Base: []int{t.next(limit), t.next(limit), t.next(limit)}}
	for range 2 + t.next(1) {
		most := 12
		if t.next(9) > 6 {
			most = impl.TrtMaxGive
		}
		some.Gives = append(some.Gives, max(0, t.next(most)))
	}
	return some
}

func wrongTreaties() []impl.TrtTreaty {
	var list []impl.TrtTreaty
	for _, base := range wrongVals() {
		list = append(list, treaty(base, 1), treaty(base, 5, 0, impl.TrtMaxGive))
	}
	fine := []int{1, 2, 3}
	list = append(list, impl.TrtTreaty{}, treaty(fine), treaty(fine, make([]int, impl.TrtMaxSites+1)...), treaty(fine, make([]int, 500)...))
	for size := 1; size <= impl.TrtMaxSites; size++ {
		for place := range size {
			for _, n := range []int{-1, impl.TrtMaxGive + 1, math.MaxInt, math.MinInt} {
				gives := make([]int, size)
				gives[place] = n
				list = append(list, treaty(fine, gives...))
			}
		}
	}
	return list
}

// someParts are lists of parts that are ok; parts need not be such as CatPart tells, and may be there twice.
func someParts() [][][]int {
	const m = impl.FrmMax
	pots := [][]int{{1, 0, 0}, {0, 1, 0}, {0, 0, 1}}
	return [][][]int{
		nil,
		pots,
		pots[1:2],
		append(slices.Clone(pots), []int{1, -1, 0}, []int{1, 1, 1}, []int{2, 0, -1}),
		{{0, 0, 0}, {0, 0, 0}},
		{{-1, 0, 0}, {3, -2, 5}, {-1, 0, 0}},
		{{m, -m, 0}, {0, m, m}},
	}
}

func wrongParts() [][][]int {
	fine := []int{1, 0, 0}
	var list [][][]int
	for _, wrong := range wrongLists(impl.FrmPots, impl.FrmMax) {
		list = append(list, [][]int{wrong}, [][]int{fine, wrong}, [][]int{wrong, fine}, [][]int{fine, wrong, fine})
	}
	return list
}

func wrongAdded() [][]int {
	return wrongLists(impl.FrmPots, 2*impl.ValMax)
}

// wrongSites are none of so many.
func wrongSites(many int) []int {
	return []int{-1, many, many + 1, math.MaxInt, math.MinInt}
}

// someAdded go from nothing over what small Gives allow to the ends of what may be added.
func someAdded() [][]int {
	const m = 2 * impl.ValMax
	list := [][]int{{0, 0, 0}, {1, 0, 0}, {0, -1, 0}, {0, 0, 7}, {3, 2, -1}, {-3, -2, 1}, {5, 5, 5}, {50, -50, 0}, {51, 0, 0}, {0, -51, 0}, {m, m, m}, {-m, -m, -m}, {m, -m, 0}}
	turn := &turning{state: 21}
	for range 25 {
		list = append(list, []int{turn.next(4), turn.next(4), turn.next(4)}, []int{turn.next(60), turn.next(60), turn.next(60)})
	}
	return list
}

func sumByHand(lists ...[]int) []int {
	sum := make([]int, impl.FrmPots)
	for _, list := range lists {
		for i, n := range list {
			sum[i] += n
		}
	}
	return sum
}

func partAt(part, added []int) int {
	return part[0]*added[0] + part[1]*added[1] + part[2]*added[2]
}

// keepsByHand is of what is ok alone.
func keepsByHand(t impl.TrtTreaty, parts [][]int, site int, added []int) bool {
	for _, part := range parts {
		if n := partAt(part, added); n > t.Gives[site] || -n > t.Gives[site] {
			return false
		}
	}
	return true
}

func othersByHand(gives []int, site int) int {
	sum := -gives[site]
	for _, give := range gives {
		sum += give
	}
	return sum
}

// boundsByHand is of what is ok alone; it looks a form's part up with both signs.
func boundsByHand(t impl.TrtTreaty, parts [][]int, site int, added []int, f impl.FrmForm, args []int) (int, int, bool) {
	n := valueOf(f, sumByHand(t.Base, added), args)
	if allIn(0, f.C) {
		return n, n, true
	}
	turned := slices.Clone(f.C)
	if slices.Compare(turned, []int{0, 0, 0}) < 0 {
		turned = negated(turned)
	}
	if !slices.ContainsFunc(parts, func(part []int) bool { return slices.Equal(part, turned) }) {
		return 0, 0, false
	}
	others := othersByHand(t.Gives, site)
	return n - others, n + others, true
}

// looseAct tests pots, but adds and tells by few of them, so that sites may do much alone.
func (t *turning) looseAct() []impl.ActLine {
	var act []impl.ActLine
	tests := 0
	for range 1 + (t.next(20)+20)%impl.ActMax {
		switch kind := t.next(20); {
		case kind < -4 && tests < impl.ActMaxTest:
			tests++
			act = append(act, asking(2+t.next(1), t.looseForm(16)))
		case kind < 11:
			act = append(act, adding(1+t.next(1), t.looseForm(-14)))
		case kind < 19:
			act = append(act, telling(t.looseForm(-16)))
		default:
			act = append(act, stopping())
		}
	}
	return act
}

// looseForm has pots the more often the greater the number is, of -20 to 20.
func (t *turning) looseForm(often int) impl.FrmForm {
	f := number(t.next(4))
	if t.next(20) < often {
		f.C[1+t.next(1)] = t.next(1)
		f.C[1+t.next(1)] = t.next(2)
	}
	if t.next(2) > 0 {
		f.D[t.next(1)&1] = t.next(1)
	}
	return f
}

func (t *turning) looseCat() [][]impl.ActLine {
	var acts [][]impl.ActLine
	for range 1 + (t.next(9)+9)%impl.CatMax {
		acts = append(acts, t.looseAct())
	}
	return acts
}

func (t *turning) args() []int {
	return []int{t.next(impl.ArgMax), t.next(impl.ArgMax)}
}

// nearBase is mostly far from all ends, and now and then near one of them.
func (t *turning) nearBase() []int {
	var base []int
	for range impl.FrmPots {
		switch t.next(6) {
		case -6:
			base = append(base, impl.ValMax+min(0, t.next(30)))
		case 6:
			base = append(base, -impl.ValMax+max(0, t.next(30)))
		default:
			base = append(base, t.next(40))
		}
	}
	return base
}

// keeping is something that a site may have added by its treaty without a pinned pot; nothing, if none is found soon.
func (t *turning) keeping(tr impl.TrtTreaty, parts [][]int, pins []bool, site int) []int {
	for range 8 {
		added := make([]int, impl.FrmPots)
		for v, pinned := range pins {
			if !pinned {
				added[v] = t.next(tr.Gives[site])
			}
		}
		if keepsByHand(tr, parts, site, added) {
			return added
		}
	}
	return make([]int, impl.FrmPots)
}
