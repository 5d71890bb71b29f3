package tests

import (
	"math"
	"slices"
	"testing"

	"loop.example/concord/impl"
)

func TestTrtOk(t *testing.T) {
	for _, tr := range okTreaties() {
		if !impl.TrtOk(tr) {
			t.Errorf("TrtOk(%v) is false", tr)
		}
	}
	for _, tr := range wrongTreaties() {
		if impl.TrtOk(tr) {
			t.Errorf("TrtOk(%v) is true", tr)
		}
	}
}

// eachOkCase goes through treaties, parts, sites and what was added, all of them ok.
func eachOkCase(do func(tr impl.TrtTreaty, parts [][]int, site int, added []int)) {
	for _, tr := range okTreaties() {
		for _, parts := range someParts() {
			for site := range tr.Gives {
				for _, added := range someAdded() {
					do(tr, parts, site, added)
				}
			}
		}
	}
}

func TestTrtKeepsByHand(t *testing.T) {
	count := [2]int{}
	eachOkCase(func(tr impl.TrtTreaty, parts [][]int, site int, added []int) {
		want := keepsByHand(tr, parts, site, added)
		if got := impl.TrtKeeps(tr, parts, site, added); got != want {
			t.Fatalf("TrtKeeps(%v, %v, %d, %v) is %v", tr, parts, site, added, got)
		}
		if want {
			count[1]++
		} else {
			count[0]++
		}
	})
	if count[0] < 1000 || count[1] < 1000 {
		t.Errorf("%d do not keep, %d do", count[0], count[1])
	}
}

func TestTrtKeepsAtTheEnds(t *testing.T) {
	const m, most = impl.FrmMax, 2 * impl.ValMax
	pots := someParts()[1]
	for _, c := range []struct {
		gives []int
		parts [][]int
		site  int
		added []int
		keeps bool
	}{
		{[]int{0}, pots, 0, []int{0, 0, 0}, true},
		{[]int{0}, pots, 0, []int{0, 1, 0}, false},
		{[]int{0}, pots, 0, []int{0, 0, -1}, false},
		{[]int{10, 6}, pots, 0, []int{10, -10, 0}, true},
		{[]int{10, 6}, pots, 0, []int{11, 0, 0}, false},
		{[]int{10, 6}, pots, 0, []int{0, -11, 0}, false},
		{[]int{10, 6}, pots, 1, []int{6, 0, -6}, true},
		{[]int{10, 6}, pots, 1, []int{0, 0, 7}, false},
		{[]int{10, 6}, pots, 1, []int{0, 0, -7}, false},
		{[]int{1, 2, 50}, pots, 2, []int{50, -50, 50}, true},
		{[]int{1, 2, 50}, pots, 2, []int{50, -50, 51}, false},
		{[]int{10}, [][]int{{1, 1, 0}}, 0, []int{most, 10 - most, most}, true},
		{[]int{10}, [][]int{{1, 1, 0}}, 0, []int{most, 11 - most, most}, false},
		{[]int{10}, [][]int{{1, 1, 0}}, 0, []int{-most, most - 10, -most}, true},
		{[]int{10}, [][]int{{1, 1, 0}}, 0, []int{-most, most - 11, -most}, false},
		{[]int{0}, nil, 0, []int{most, -most, most}, true},
		{[]int{0}, [][]int{{0, 0, 0}}, 0, []int{-most, most, -most}, true},
		{[]int{50}, nil, 0, []int{most + 1, 0, 0}, false},
		{[]int{50}, nil, 0, []int{0, -most - 1, 0}, false},
		{[]int{0}, [][]int{{m, -m, 0}}, 0, []int{most, most, 1}, true},
		{[]int{50}, [][]int{{m, -m, 0}}, 0, []int{most, most - 1, 1}, false},
		{[]int{50}, [][]int{{m, m, m}}, 0, []int{most, most, most}, false},
		{[]int{50}, [][]int{{m + 1, 0, 0}}, 0, []int{0, 0, 0}, false},
		{[]int{50}, [][]int{{0, 0, -m - 1}}, 0, []int{0, 0, 0}, false},
		{[]int{5}, [][]int{{1, 0, 0}, {0, 0, 0}, {1, 2, 0}}, 0, []int{1, 2, 9}, true},
		{[]int{5}, [][]int{{1, 0, 0}, {0, 0, 0}, {1, 2, 0}}, 0, []int{1, 3, 9}, false},
	} {
		tr := treaty([]int{1, 2, 3}, c.gives...)
		if got := impl.TrtKeeps(tr, c.parts, c.site, c.added); got != c.keeps {
			t.Errorf("TrtKeeps with Gives %v of %v at %d with %v is %v", c.gives, c.parts, c.site, c.added, got)
		}
	}
}

// wrongStands hands on what is ok but for one thing.
func wrongStands(do func(tr impl.TrtTreaty, site int, added []int)) {
	for _, tr := range wrongTreaties() {
		do(tr, 0, []int{0, 0, 0})
	}
	for _, added := range wrongAdded() {
		do(treaty([]int{1, 2, 3}, 10, 6), 1, added)
	}
	for size := 1; size <= impl.TrtMaxSites; size++ {
		for _, site := range wrongSites(size) {
			do(treaty([]int{1, 2, 3}, make([]int, size)...), site, []int{0, 0, 0})
		}
	}
}

// wrongCases has wrong parts, too.
func wrongCases(do func(tr impl.TrtTreaty, parts [][]int, site int, added []int)) {
	wrongStands(func(tr impl.TrtTreaty, site int, added []int) {
		do(tr, nil, site, added)
		do(tr, someParts()[1], site, added)
	})
	for _, parts := range wrongParts() {
		do(treaty([]int{1, 2, 3}, 10, 6), parts, 1, []int{0, 0, 0})
	}
}

func TestTreatiesWithWrongInputs(t *testing.T) {
	wrongCases(func(tr impl.TrtTreaty, parts [][]int, site int, added []int) {
		if impl.TrtKeeps(tr, parts, site, added) {
			t.Errorf("TrtKeeps(%v, %v, %d, %v) is true", tr, parts, site, added)
		}
		for _, f := range []impl.FrmForm{pot(0), number(3)} {
			if least, most, known := impl.TrtBounds(tr, parts, site, added, f, []int{1, 2}); least != 0 || most != 0 || known {
				t.Errorf("TrtBounds(%v, %v, %d, %v) of %v is %d, %d, %v", tr, parts, site, added, f, least, most, known)
			}
		}
	})
	fine, pots := treaty([]int{1, 2, 3}, 10, 6), someParts()[1]
	for _, f := range wrongForms() {
		if least, most, known := impl.TrtBounds(fine, pots, 0, []int{1, 0, 0}, f, []int{1, 2}); least != 0 || most != 0 || known {
			t.Errorf("TrtBounds of %v is %d, %d, %v", f, least, most, known)
		}
	}
	for _, args := range wrongArgs() {
		for _, f := range []impl.FrmForm{pot(0), number(3), form(0, 0, 0, 1, 1, 0)} {
			if least, most, known := impl.TrtBounds(fine, pots, 0, []int{1, 0, 0}, f, args); least != 0 || most != 0 || known {
				t.Errorf("TrtBounds of %v with %v is %d, %d, %v", f, args, least, most, known)
			}
		}
	}
}

func TestP43WhatKeepsKeepsWithMore(t *testing.T) {
	kept := 0
	eachOkCase(func(tr impl.TrtTreaty, parts [][]int, site int, added []int) {
		if !impl.TrtKeeps(tr, parts, site, []int{0, 0, 0}) {
			t.Fatalf("nothing added does not keep to %v with %v at %d", tr, parts, site)
		}
		if !impl.TrtKeeps(tr, parts, site, added) {
			return
		}
		kept++
		if !impl.TrtKeeps(tr, parts, site, negated(added)) {
			t.Fatalf("-1 times %v does not keep to %v with %v at %d", added, tr, parts, site)
		}
		for other := range tr.Gives {
			more := treaty(tr.Base, slices.Clone(tr.Gives)...)
			more.Gives[other]++
			if impl.TrtOk(more) && !impl.TrtKeeps(more, parts, site, added) {
				t.Fatalf("%v does not keep to %v with %v at %d", added, more, parts, site)
			}
		}
	})
	if kept < 1000 {
		t.Errorf("only %d keep", kept)
	}
}

func TestP44OthersAndTheSite(t *testing.T) {
	for _, tr := range okTreaties() {
		all := 0
		for _, give := range tr.Gives {
			all += give
		}
		for site, give := range tr.Gives {
			if got := impl.TrtOthers(tr, site); got+give != all {
				t.Errorf("TrtOthers(%v, %d) is %d", tr, site, got)
			}
		}
	}
}

func TestP44OthersOfAnyTreaty(t *testing.T) {
	for _, c := range []struct {
		gives  []int
		site   int
		others int
	}{
		{nil, 0, 0}, {[]int{}, -1, 0}, {[]int{5}, 0, 0}, {[]int{5}, 1, 5}, {[]int{5}, -1, 5},
		{[]int{10, 6}, 0, 6}, {[]int{10, 6}, 1, 10}, {[]int{10, 6}, 2, 16}, {[]int{10, 6}, math.MinInt, 16}, {[]int{10, 6}, math.MaxInt, 16},
		{[]int{1, 20, 300, 4000, 50000}, 3, 50321}, {[]int{1, 20, 300, 4000, 50000}, 4, 4321},
		{[]int{-5, 60, -700}, 1, -705}, {[]int{-5, 60, -700}, 2, 55},
		{[]int{math.MaxInt, 1, math.MinInt}, 1, -1}, {[]int{math.MaxInt, 0}, 1, math.MaxInt},
	} {
		for _, base := range [][]int{{1, 2, 3}, nil, {impl.ValMax + 1, 0, 0}} {
			if got := impl.TrtOthers(treaty(base, c.gives...), c.site); got != c.others {
				t.Errorf("TrtOthers of %v at %d is %d, not %d", c.gives, c.site, got, c.others)
			}
		}
	}
}

// addedFor is something for each site, now and then beyond what one of them may go.
func (t *turning) addedFor(tr impl.TrtTreaty) [][]int {
	var added [][]int
	for _, give := range tr.Gives {
		reach := give
		if t.next(9) > 6 {
			reach++
		}
		added = append(added, []int{t.next(reach), t.next(reach), t.next(reach)})
	}
	return added
}

func TestP45AllKeep(t *testing.T) {
	count := [2]int{}
	turn := &turning{state: 22}
	for _, tr := range okTreaties() {
		for _, parts := range someParts() {
			for range 20 {
				added := turn.addedFor(tr)
				each := true
				for site, one := range added {
					each = each && impl.TrtKeeps(tr, parts, site, one)
				}
				if got := impl.TrtAll(tr, parts, added); got != each {
					t.Fatalf("TrtAll(%v, %v, %v) is %v", tr, parts, added, got)
				}
				if each {
					count[1]++
				} else {
					count[0]++
				}
			}
		}
	}
	if count[0] < 1000 || count[1] < 1000 {
		t.Errorf("%d do not keep, %d do", count[0], count[1])
	}
}

func TestP45SomethingForEachSite(t *testing.T) {
	pots, none := someParts()[1], []int{0, 0, 0}
	for size := 1; size <= impl.TrtMaxSites; size++ {
		tr := treaty([]int{1, 2, 3}, slices.Repeat([]int{4}, size)...)
		for many := range impl.TrtMaxSites + 3 {
			for _, parts := range [][][]int{nil, pots} {
				if got := impl.TrtAll(tr, parts, slices.Repeat([][]int{none}, many)); got != (many == size) {
					t.Errorf("TrtAll of %d sites with %d is %v", size, many, got)
				}
			}
		}
		for site := range size {
			for _, wrong := range append(wrongAdded(), []int{5, 0, 0}, []int{0, 0, -5}) {
				added := slices.Repeat([][]int{none}, size)
				added[site] = wrong
				if impl.TrtAll(tr, pots, added) {
					t.Errorf("TrtAll with %v is true", added)
				}
			}
		}
		for _, parts := range wrongParts() {
			if impl.TrtAll(tr, parts, slices.Repeat([][]int{none}, size)) {
				t.Errorf("TrtAll with the parts %v is true", parts)
			}
		}
	}
	for _, tr := range wrongTreaties() {
		for _, parts := range [][][]int{nil, pots} {
			if impl.TrtAll(tr, parts, slices.Repeat([][]int{none}, len(tr.Gives))) {
				t.Errorf("TrtAll(%v) is true", tr)
			}
		}
	}
}

// formsNear are forms whose parts are among the parts, with both signs, and forms whose parts are not, or that have no pots.
func formsNear(turn *turning, parts [][]int) []impl.FrmForm {
	list := []impl.FrmForm{number(0), number(-7), form(0, 0, 0, 1, -2, 5), pot(1), form(0, 0, 3, 0, 0, 0), turn.form(2), turn.form(impl.FrmMax)}
	for _, part := range parts {
		f := turn.form(impl.ActMaxNum)
		f.C = slices.Clone(part)
		g := turn.form(impl.ActMaxNum)
		g.C = negated(part)
		list = append(list, f, g)
	}
	return list
}

func TestTrtBoundsByHand(t *testing.T) {
	count := [2]int{}
	turn := &turning{state: 23}
	eachOkCase(func(tr impl.TrtTreaty, parts [][]int, site int, added []int) {
		for _, f := range formsNear(turn, parts) {
			args := turn.args()
			least, most, known := boundsByHand(tr, parts, site, added, f, args)
			gotLeast, gotMost, gotKnown := impl.TrtBounds(tr, parts, site, added, f, args)
			if gotLeast != least || gotMost != most || gotKnown != known {
				t.Fatalf("TrtBounds(%v, %v, %d, %v, %v, %v) is %d, %d, %v, not %d, %d, %v", tr, parts, site, added, f, args, gotLeast, gotMost, gotKnown, least, most, known)
			}
			if known {
				count[1]++
			} else {
				count[0]++
			}
		}
	})
	if count[0] < 1000 || count[1] < 1000 {
		t.Errorf("%d are not known, %d are", count[0], count[1])
	}
}

func TestTrtBoundsAtTheEnds(t *testing.T) {
	const m, v, g = impl.FrmMax, impl.ValMax, impl.TrtMaxGive
	parts := [][]int{{1, 0, 0}, {0, 1, 0}, {0, 0, 1}, {1, -1, 0}}
	for _, c := range []struct {
		tr          impl.TrtTreaty
		parts       [][]int
		site        int
		added       []int
		f           impl.FrmForm
		least, most int
		known       bool
	}{
		{treaty([]int{20, 0, 0}, 10, 6), parts, 0, []int{-9, 0, 0}, pot(0), 5, 17, true},
		{treaty([]int{20, 0, 0}, 10, 6), parts, 1, []int{-9, 0, 0}, pot(0), 1, 21, true},
		{treaty([]int{20, 0, 0}, 10, 6), parts, 0, []int{-9, 0, 0}, form(-1, 0, 0, 0, 0, 0), -17, -5, true},
		{treaty([]int{20, 5, 0}, 10, 6), parts, 0, []int{0, 1, 0}, form(1, -1, 0, 0, 0, 0), 8, 20, true},
		{treaty([]int{20, 5, 0}, 10, 6), parts, 0, []int{0, 1, 0}, form(-1, 1, 0, 0, 0, 0), -20, -8, true},
		{treaty([]int{20, 5, 0}, 10, 6), parts, 0, []int{0, 1, 0}, form(1, 1, 0, 0, 0, 0), 0, 0, false},
		{treaty([]int{20, 5, 0}, 10, 6), parts, 0, []int{0, 1, 0}, form(2, 0, 0, 0, 0, 0), 0, 0, false},
		{treaty([]int{20, 5, 0}, 10, 6), parts, 0, []int{0, 1, 0}, form(2, -2, 0, 0, 0, 0), 0, 0, false},
		{treaty([]int{20, 5, 0}, 10, 6), nil, 0, []int{0, 1, 0}, pot(0), 0, 0, false},
		{treaty([]int{20, 5, 0}, 10, 6), nil, 0, []int{0, 1, 0}, form(0, 0, 0, 1, 2, 3), 8, 8, true},
		{treaty([]int{20, 5, 0}, 10, 6), [][]int{{0, 0, 0}}, 0, []int{0, 1, 0}, number(-4), -4, -4, true},
		{treaty([]int{20, 5, 0}, 10, 6), [][]int{{-1, 1, 0}}, 0, []int{0, 1, 0}, form(-1, 1, 0, 0, 0, 0), 0, 0, false},
		{treaty([]int{20, 5, 0}, 10, 6), [][]int{{-1, 1, 0}}, 0, []int{0, 1, 0}, form(1, -1, 0, 0, 0, 0), 0, 0, false},
		{treaty([]int{0, 0, 0}, g, g, g), parts, 1, []int{0, 0, 0}, pot(2), -2 * g, 2 * g, true},
		{treaty([]int{0, 0, 0}, 0, 0, 0), parts, 1, []int{0, 0, 0}, pot(2), 0, 0, true},
		{treaty([]int{v, 0, 0}, g), parts, 0, []int{2 * v, 0, 0}, pot(0), 3 * v, 3 * v, true},
		{treaty([]int{-v, 0, 0}, g), parts, 0, []int{-2 * v, 0, 0}, pot(0), -3 * v, -3 * v, true},
		{treaty([]int{v, v, v}, 0, g), [][]int{{m, m, m}}, 0, []int{2 * v, 2 * v, 2 * v}, form(m, m, m, m, m, m), 9*m*v + 4*m - g, 9*m*v + 4*m + g, true},
	} {
		least, most, known := impl.TrtBounds(c.tr, c.parts, c.site, c.added, c.f, []int{1, 2})
		if least != c.least || most != c.most || known != c.known {
			t.Errorf("TrtBounds(%v, %v, %d, %v, %v) is %d, %d, %v, not %d, %d, %v", c.tr, c.parts, c.site, c.added, c.f, least, most, known, c.least, c.most, c.known)
		}
	}
}

func TestP46OthersThatGiveNothing(t *testing.T) {
	turn := &turning{state: 24}
	eachOkCase(func(tr impl.TrtTreaty, parts [][]int, site int, added []int) {
		still := treaty(tr.Base, make([]int, len(tr.Gives))...)
		still.Gives[site] = tr.Gives[site]
		for _, f := range formsNear(turn, parts) {
			args := turn.args()
			n := valueOf(f, sumByHand(tr.Base, added), args)
			if least, most, known := impl.TrtBounds(still, parts, site, added, f, args); known && (least != n || most != n) {
				t.Fatalf("TrtBounds(%v, %v, %d, %v, %v, %v) is %d and %d, not %d", still, parts, site, added, f, args, least, most, n)
			}
			f.C = []int{0, 0, 0}
			n = valueOf(f, []int{0, 0, 0}, args)
			if least, most, known := impl.TrtBounds(tr, parts, site, added, f, args); !known || least != n || most != n {
				t.Fatalf("TrtBounds(%v, %v, %d, %v, %v, %v) is %d, %d, %v, not %d", tr, parts, site, added, f, args, least, most, known, n)
			}
		}
	})
}

func TestP6WhatOneSiteKnowsIsSoForAll(t *testing.T) {
	turn := &turning{state: 25}
	held, atLeast, atMost := 0, 0, 0
	for _, tr := range okTreaties() {
		for _, parts := range someParts() {
			for range 25 {
				added := turn.addedFor(tr)
				if !impl.TrtAll(tr, parts, added) {
					continue
				}
				all := sumByHand(append(added, tr.Base)...)
				for _, f := range formsNear(turn, parts) {
					args := turn.args()
					n := valueOf(f, all, args)
					for site := range tr.Gives {
						least, most, known := impl.TrtBounds(tr, parts, site, added[site], f, args)
						if known && (n < least || n > most) {
							t.Fatalf("%v of %v is %d, and TrtBounds of %d with %v is %d and %d", f, tr, n, site, added, least, most)
						}
						if known {
							held++
						}
						if known && least < most && n == least {
							atLeast++
						}
						if known && least < most && n == most {
							atMost++
						}
					}
				}
			}
		}
	}
	if held < 10000 || atLeast < 20 || atMost < 20 {
		t.Errorf("only %d are known, %d of them at the least and %d at the most", held, atLeast, atMost)
	}
}
