package tests

import (
	"math"
	"slices"
	"testing"

	"loop.example/concord/impl"
)

// localCase is what LocTry is asked.
type localCase struct {
	acts  [][]impl.ActLine
	tr    impl.TrtTreaty
	site  int
	added []int
	k     int
	args  []int
}

func (c localCase) try() (impl.ResResult, []int, bool) {
	return impl.LocTry(c.acts, c.tr, c.site, c.added, c.k, c.args)
}

func pinsByHand(acts [][]impl.ActLine) []bool {
	pins := make([]bool, impl.FrmPots)
	for _, act := range acts {
		for _, r := range waysByHand(act) {
			for _, f := range slices.Concat(r.Adds, r.Tells) {
				for v := range pins {
					pins[v] = pins[v] || f.C[v] != 0
				}
			}
		}
	}
	return pins
}

func addsToAPin(pins []bool, added []int) bool {
	for v, n := range added {
		if pins[v] && n != 0 {
			return true
		}
	}
	return false
}

func valuesOf(forms []impl.FrmForm, vals, args []int) []int {
	var list []int
	for _, f := range forms {
		list = append(list, valueOf(f, vals, args))
	}
	return list
}

// byHand asks what LocTry asks, of what is ok, in the document's order; nothing and false, where what was added does not keep or is pinned.
func (c localCase) byHand() (impl.ResResult, []int, bool) {
	parts, pins := partsByHand(c.acts), pinsByHand(c.acts)
	if !keepsByHand(c.tr, parts, c.site, c.added) || addsToAPin(pins, c.added) {
		return impl.ResResult{}, nil, false
	}
	could, couldNot := slices.Clone(c.added), impl.ResResult{}
	rows := waysByHand(c.acts[c.k])
	sure := slices.IndexFunc(rows, func(r impl.RowRow) bool {
		return !slices.ContainsFunc(r.Guards, func(g impl.FrmForm) bool {
			least, _, known := boundsByHand(c.tr, parts, c.site, c.added, g, c.args)
			return !known || least < 0
		})
	})
	if sure < 0 {
		return couldNot, could, false
	}
	row := rows[sure]
	if row.Stop {
		return impl.ResResult{Code: impl.ResStopped}, could, true
	}
	adds := valuesOf(row.Adds, c.tr.Base, c.args)
	then := sumByHand(c.added, adds)
	if addsToAPin(pins, adds) || !allIn(2*impl.ValMax, then) {
		return couldNot, could, false
	}
	others, pots := othersByHand(c.tr.Gives, c.site), sumByHand(c.tr.Base, then)
	if slices.Max(pots)-others > impl.ValMax || slices.Min(pots)+others < -impl.ValMax {
		return impl.ResResult{Code: impl.ResOver}, could, true
	}
	if slices.Max(pots)+others > impl.ValMax || slices.Min(pots)-others < -impl.ValMax || !keepsByHand(c.tr, parts, c.site, then) {
		return couldNot, could, false
	}
	return impl.ResResult{Code: impl.ResDone, Tells: valuesOf(row.Tells, c.tr.Base, c.args)}, then, true
}

// localCases are ok, and what was added keeps to the treaty and is not pinned.
func localCases(state uint64, many int) []localCase {
	turn := &turning{state: state}
	var list []localCase
	for range many {
		acts := turn.looseCat()
		parts, pins := partsByHand(acts), pinsByHand(acts)
		for range 6 {
			tr := turn.treaty(1)
			tr.Base = turn.nearBase()
			site := (turn.next(9) + 9) % len(tr.Gives)
			added := turn.keeping(tr, parts, pins, site)
			list = append(list, localCase{acts, tr, site, added, (turn.next(9) + 9) % len(acts), turn.args()})
		}
	}
	return list
}

// counts tells ends of LocTry apart, so that a test may ask that all of them came.
type counts struct{ stopped, over, done, added, couldNot int }

func (n *counts) note(c localCase, r impl.ResResult, added []int, could bool) {
	switch {
	case !could:
		n.couldNot++
	case r.Code == impl.ResStopped:
		n.stopped++
	case r.Code == impl.ResOver:
		n.over++
	default:
		n.done++
		if !slices.Equal(added, c.added) {
			n.added++
		}
	}
}

func (n *counts) ask(t *testing.T, least int) {
	t.Helper()
	if min(n.stopped, n.over, n.added, n.couldNot) < least {
		t.Errorf("too few of one kind: %+v", *n)
	}
}

func TestLocTryByHand(t *testing.T) {
	var n counts
	for _, c := range localCases(30, 1200) {
		r, added, could := c.try()
		want, wantAdded, wantCould := c.byHand()
		if !sameResult(r, want) || !slices.Equal(added, wantAdded) || could != wantCould {
			t.Fatalf("LocTry of %v is %v, %v, %v, not %v, %v, %v", c, r, added, could, want, wantAdded, wantCould)
		}
		n.note(c, r, added, could)
	}
	n.ask(t, 100)
}

// Acts as they come pin nearly all pots; what was added is anything that may be.
func TestLocTryOfAnyActs(t *testing.T) {
	turn := &turning{state: 31}
	for _, acts := range someCats() {
		for range 4 {
			tr := turn.treaty(impl.ValMax)
			c := localCase{acts, tr, (turn.next(9) + 9) % len(tr.Gives), []int{0, 0, 0}, (turn.next(9) + 9) % len(acts), turn.args()}
			if v := turn.next(3); v >= 0 && v < impl.FrmPots {
				c.added[v] = turn.next(tr.Gives[c.site] + 1)
			}
			r, added, could := c.try()
			want, wantAdded, wantCould := c.byHand()
			if !sameResult(r, want) || !slices.Equal(added, wantAdded) || could != wantCould {
				t.Fatalf("LocTry of %v is %v, %v, %v, not %v, %v, %v", c, r, added, could, want, wantAdded, wantCould)
			}
		}
	}
}

func TestP7AloneIsAsOverAll(t *testing.T) {
	var n counts
	turn := &turning{state: 32}
	for _, c := range localCases(33, 1200) {
		r, then, could := c.try()
		n.note(c, r, then, could)
		if !could {
			continue
		}
		parts, pins := partsByHand(c.acts), pinsByHand(c.acts)
		if !impl.TrtKeeps(c.tr, impl.CatForms(c.acts), c.site, then) {
			t.Fatalf("LocTry of %v adds %v, which does not keep", c, then)
		}
		for range 8 {
			pots := sumByHand(c.tr.Base, c.added)
			for site := range c.tr.Gives {
				if site != c.site {
					pots = sumByHand(pots, turn.keeping(c.tr, parts, pins, site))
				}
			}
			if !impl.ValOk(pots) {
				continue
			}
			want, after := impl.ActRun(c.acts[c.k], pots, c.args)
			if !sameResult(r, want) || !slices.Equal(differences(after, pots), differences(then, c.added)) {
				t.Fatalf("LocTry of %v is %v and %v, and ActRun over all, from %v, %v and %v", c, r, then, pots, want, after)
			}
		}
	}
	n.ask(t, 100)
}

func TestP47OneSiteThatHasAddedNothing(t *testing.T) {
	var n counts
	for _, c := range localCases(34, 1200) {
		c.tr.Gives, c.site, c.added = c.tr.Gives[:1], 0, []int{0, 0, 0}
		r, then, could := c.try()
		n.note(c, r, then, could)
		want, after := impl.ActRun(c.acts[c.k], c.tr.Base, c.args)
		adds := differences(after, c.tr.Base)
		may := !addsToAPin(impl.CatPins(c.acts), adds) && impl.TrtKeeps(c.tr, impl.CatForms(c.acts), 0, adds)
		if want.Code != impl.ResOver && could != may {
			t.Fatalf("LocTry of %v says %v, and ActRun is %v, with %v added", c, could, want, adds)
		}
		if could && (!sameResult(r, want) || !slices.Equal(then, adds)) {
			t.Fatalf("LocTry of %v is %v and %v, and ActRun is %v, with %v added", c, r, then, want, adds)
		}
	}
	n.ask(t, 100)
}

func TestP48WithoutGivesNothingIsAdded(t *testing.T) {
	could := 0
	for _, c := range localCases(35, 800) {
		c.tr.Gives, c.added = make([]int, len(c.tr.Gives)), []int{0, 0, 0}
		_, then, did := c.try()
		if !slices.Equal(then, c.added) {
			t.Fatalf("LocTry of %v has %v added", c, then)
		}
		if did {
			could++
		}
		c.added = []int{0, 0, 1}
		if r, then, did := c.try(); r.Code != 0 || len(then) != 0 || did {
			t.Fatalf("LocTry of %v is %v, %v, %v", c, r, then, did)
		}
	}
	if could < 100 {
		t.Errorf("only %d could", could)
	}
}

// withGive is the same case, with a site that gives more, or less.
func (c localCase) withGive(site, more int) localCase {
	c.tr = treaty(c.tr.Base, slices.Clone(c.tr.Gives)...)
	c.tr.Gives[site] += more
	return c
}

func TestP49WhatItCouldItCouldWithMore(t *testing.T) {
	var n counts
	for _, c := range localCases(36, 1200) {
		r, then, could := c.try()
		n.note(c, r, then, could)
		if !could {
			continue
		}
		for site := range c.tr.Gives {
			easier := c.withGive(site, -1)
			if site == c.site {
				easier = c.withGive(site, 1)
			}
			if !impl.TrtOk(easier.tr) {
				continue
			}
			if again, added, did := easier.try(); !did || !sameResult(again, r) || !slices.Equal(added, then) {
				t.Fatalf("LocTry of %v is %v and %v, and of %v %v, %v, %v", c, r, then, easier, again, added, did)
			}
		}
	}
	n.ask(t, 100)
}

func isNoResult(r impl.ResResult) bool {
	return r.Code == 0 && len(r.Tells) == 0
}

func checkNothing(t *testing.T, c localCase) {
	t.Helper()
	if r, added, could := c.try(); !isNoResult(r) || len(added) != 0 || could {
		t.Errorf("LocTry of %v is %v, %v, %v, not nothing", c, r, added, could)
	}
}

func TestLocTryWithWrongInputs(t *testing.T) {
	taking := actOf(t, "test 1 1x0 -1a0 0", "add 0 -1a0 0")
	fine := localCase{[][]impl.ActLine{taking}, treaty([]int{20, 0, 0}, 10, 6), 0, []int{-1, 0, 0}, 0, []int{3, 0}}
	if r, added, could := fine.try(); !sameResult(r, impl.ResResult{Code: impl.ResDone}) || !slices.Equal(added, []int{-4, 0, 0}) || !could {
		t.Fatalf("LocTry of %v is %v, %v, %v", fine, r, added, could)
	}
	for _, acts := range wrongCats() {
		for k := range max(1, min(len(acts), impl.CatMax)) {
			c := fine
			c.acts, c.k = acts, k
			checkNothing(t, c)
		}
	}
	for many := 1; many <= impl.CatMax; many++ {
		for _, k := range []int{-1, many, many + 1, math.MaxInt, math.MinInt} {
			c := fine
			c.acts, c.k = slices.Repeat(fine.acts, many), k
			checkNothing(t, c)
		}
	}
	for _, args := range wrongArgs() {
		c := fine
		c.args = args
		checkNothing(t, c)
	}
	wrongStands(func(tr impl.TrtTreaty, site int, added []int) {
		c := fine
		c.tr, c.site, c.added = tr, site, added
		checkNothing(t, c)
	})
	for _, added := range [][]int{{-11, 0, 0}, {11, 0, 0}, {0, 11, 0}, {0, 0, -11}, {0, 0, 2 * impl.ValMax}} {
		c := fine
		c.added = added
		checkNothing(t, c)
	}
}

// What was added keeps each pot, but not a part of some other act.
func TestLocTryAsksForThePartsOfAllActs(t *testing.T) {
	plain, both := actOf(t, "add 0 1"), actOf(t, "test 1 1x0 1x1 0", "add 2 1")
	c := localCase{[][]impl.ActLine{plain}, treaty([]int{0, 0, 0}, 10, 10), 0, []int{6, 5, 0}, 0, []int{0, 0}}
	if r, added, could := c.try(); r.Code != impl.ResDone || !slices.Equal(added, []int{7, 5, 0}) || !could {
		t.Errorf("LocTry of %v is %v, %v, %v", c, r, added, could)
	}
	c.acts = [][]impl.ActLine{plain, both}
	checkNothing(t, c)
	c.added = []int{5, 5, 0}
	if r, added, could := c.try(); !isNoResult(r) || !slices.Equal(added, c.added) || could {
		t.Errorf("LocTry of %v is %v, %v, %v", c, r, added, could)
	}
}

// A pot is pinned by whichever act, and for all of them.
func TestLocTryWithAPinnedPot(t *testing.T) {
	plain, tells := actOf(t, "add 0 1"), actOf(t, "print 1x1 0")
	c := localCase{[][]impl.ActLine{plain}, treaty([]int{0, 0, 0}, 10, 10), 0, []int{0, 1, 0}, 0, []int{0, 0}}
	if _, added, could := c.try(); !could || !slices.Equal(added, []int{1, 1, 0}) {
		t.Errorf("LocTry of %v has %v added, %v", c, added, could)
	}
	c.acts = [][]impl.ActLine{plain, tells}
	checkNothing(t, c)
	for _, n := range []int{-1, 10} {
		c.added = []int{0, n, 0}
		checkNothing(t, c)
	}
	c.added = []int{3, 0, -3}
	if _, added, could := c.try(); !could || !slices.Equal(added, []int{4, 0, -3}) {
		t.Errorf("LocTry of %v has %v added, %v", c, added, could)
	}
}

// endCase is an act at a site, alone with others that may go so far, and what must come of it: a code (0: it could not), what was told, and what was added then.
type endCase struct {
	name   string
	lines  []string
	base   []int
	others int
	added  []int
	args   []int
	code   int
	tells  []int
	then   []int
}

func checkEnds(t *testing.T, cases []endCase) {
	t.Helper()
	for _, c := range cases {
		tr := treaty(c.base, c.others, 10)
		r, then, could := impl.LocTry([][]impl.ActLine{actOf(t, c.lines...)}, tr, 1, c.added, 0, c.args)
		if r.Code != c.code || !slices.Equal(r.Tells, c.tells) || !slices.Equal(then, c.then) || could != (c.code != 0) {
			t.Errorf("%s: LocTry is %v, %v, %v", c.name, r, then, could)
		}
	}
}

func TestLocTryWhichRow(t *testing.T) {
	none, no := []int{0, 0, 0}, []int{0, 0}
	// Of the ways the first adds 1, the second one 2 to pot 2.
	two := []string{"test 2 1x0 0", "add 2 1", "test 1 -1", "add 2 2"}
	three := []string{"test 1 1x0 -5", "add 1 1", "test 1 1x1 -5", "add 2 1"}
	checkEnds(t, []endCase{
		{"the least is exactly 0", two, []int{6, 0, 0}, 6, none, no, impl.ResDone, nil, []int{0, 0, 1}},
		{"the least is exactly -1", two, []int{5, 0, 0}, 6, none, no, 0, nil, none},
		{"neither is sure", two, []int{0, 0, 0}, 6, none, no, 0, nil, none},
		{"the least of the other one is exactly -1", two, []int{-6, 0, 0}, 6, none, no, 0, nil, none},
		{"the least of the other one is exactly 0", two, []int{-7, 0, 0}, 6, none, no, impl.ResDone, nil, []int{0, 0, 2}},
		{"what the site has added counts", two, []int{3, 0, 0}, 6, []int{3, 0, 0}, no, impl.ResDone, nil, []int{3, 0, 1}},
		{"and against it, too", two, []int{9, 0, 0}, 6, []int{-4, 0, 0}, no, 0, nil, []int{-4, 0, 0}},
		{"others that give nothing leave all sure", two, []int{0, 0, 0}, 0, none, no, impl.ResDone, nil, []int{0, 0, 1}},
		{"the second test is not sure", three, []int{20, 4, 0}, 6, none, no, 0, nil, none},
		{"both are, first as they hold", three, []int{20, 11, 0}, 6, none, no, impl.ResDone, nil, []int{0, 1, 1}},
		{"both are, the second one as it does not hold", three, []int{20, -9, 0}, 6, none, no, impl.ResDone, nil, []int{0, 1, 0}},
		{"both are, the first one as it does not hold", three, []int{-20, 11, 0}, 6, none, no, impl.ResDone, nil, []int{0, 0, 1}},
		{"neither holds", three, []int{-20, -20, 0}, 6, none, no, impl.ResDone, nil, none},
		{"a guard without pots is sure", []string{"test 1 1a0 -2", "add 0 1"}, []int{0, 0, 0}, 50, none, []int{2, 0}, impl.ResDone, nil, []int{1, 0, 0}},
		{"and so is its contrary", []string{"test 1 1a0 -2", "add 0 1"}, []int{0, 0, 0}, 50, none, []int{1, 0}, impl.ResDone, nil, none},
		{"a row without guards", []string{"add 1 3"}, []int{0, 0, 0}, 50, none, no, impl.ResDone, nil, []int{0, 3, 0}},
		{"no line at all", nil, []int{0, 0, 0}, 50, []int{1, 2, 3}, no, impl.ResDone, nil, []int{1, 2, 3}},
		{"it stops", []string{"test 1 1x0 0", "stop", "add 0 -1"}, []int{7, 0, 0}, 6, []int{0, 2, 0}, no, impl.ResStopped, nil, []int{0, 2, 0}},
		{"it does not stop", []string{"test 1 1x0 0", "stop", "add 0 -1"}, []int{-7, 0, 0}, 6, none, no, impl.ResDone, nil, []int{-1, 0, 0}},
		{"it is not sure whether it stops", []string{"test 1 1x0 0", "stop", "add 0 -1"}, []int{5, 0, 0}, 6, none, no, 0, nil, none},
		{"it stops, whatever it would add", []string{"print 1x0 0", "add 0 1x1 20", "stop"}, []int{7, 9, 0}, 6, none, no, impl.ResStopped, nil, none},
	})
}

func TestLocTryInWhichOrder(t *testing.T) {
	const v = impl.ValMax
	none, no := []int{0, 0, 0}, []int{0, 0}
	checkEnds(t, []endCase{
		{"as far as it may", []string{"add 0 10"}, []int{0, 0, 0}, 5, none, no, impl.ResDone, nil, []int{10, 0, 0}},
		{"one further", []string{"add 0 11"}, []int{0, 0, 0}, 5, none, no, 0, nil, none},
		{"with what it has added", []string{"add 0 -7"}, []int{0, 0, 0}, 5, []int{-3, 1, 0}, no, impl.ResDone, nil, []int{-10, 1, 0}},
		{"one further with that", []string{"add 0 -8"}, []int{0, 0, 0}, 5, []int{-3, 1, 0}, no, 0, nil, []int{-3, 1, 0}},
		{"a part goes too far", []string{"test 1 1x0 1x1 20", "add 1 6"}, []int{0, 0, 0}, 5, []int{5, 0, 0}, no, 0, nil, []int{5, 0, 0}},
		{"a part goes as far as it may", []string{"test 1 1x0 1x1 20", "add 1 5"}, []int{0, 0, 0}, 5, []int{5, 0, 0}, no, impl.ResDone, nil, []int{5, 5, 0}},
		{"tells at Base", []string{"print 1x1 1a0 0", "add 0 1x1 2", "print 3"}, []int{50, 4, 0}, 5, []int{2, 0, 0}, []int{9, 0}, impl.ResDone, []int{13, 3}, []int{8, 0, 0}},
		{"adds at Base, not at what pot 0 has", []string{"add 0 1x2 -1a1 0"}, []int{50, 4, 7}, 5, []int{1, 1, 0}, []int{0, 5}, impl.ResDone, nil, []int{3, 1, 0}},
		{"a pinned pot is added to", []string{"add 0 1", "print 1x0 0"}, []int{0, 0, 0}, 5, none, no, 0, nil, none},
		{"a pinned pot gets 0", []string{"add 0 1a0 0", "print 1x0 0"}, []int{4, 0, 0}, 5, none, no, impl.ResDone, []int{4}, none},
		{"a pinned pot gets something, ahead of over", []string{"add 0 1", "add 1 1", "print 1x0 0"}, []int{0, v, 0}, 0, none, no, 0, nil, none},
		{"the pinned pot itself would be over", []string{"add 0 1x0 0"}, []int{v, 0, 0}, 0, none, no, 0, nil, none},
		{"the most is exactly ValMax", []string{"add 0 1"}, []int{v - 6, 0, 0}, 5, none, no, impl.ResDone, nil, []int{1, 0, 0}},
		{"the most is one above ValMax", []string{"add 0 1"}, []int{v - 5, 0, 0}, 5, none, no, 0, nil, none},
		{"the least is exactly ValMax", []string{"add 0 5"}, []int{v, 0, 0}, 5, none, no, 0, nil, none},
		{"the least is one above ValMax", []string{"add 0 6"}, []int{v, 0, 0}, 5, none, no, impl.ResOver, nil, none},
		{"the least is exactly -ValMax", []string{"add 2 -1"}, []int{0, 0, 6 - v}, 5, none, no, impl.ResDone, nil, []int{0, 0, -1}},
		{"the least is one below -ValMax", []string{"add 2 -1"}, []int{0, 0, 5 - v}, 5, none, no, 0, nil, none},
		{"the most is exactly -ValMax", []string{"add 2 -5"}, []int{0, 0, -v}, 5, none, no, 0, nil, none},
		{"the most is one below -ValMax", []string{"add 2 -6"}, []int{0, 0, -v}, 5, none, no, impl.ResOver, nil, none},
		{"over, and what was added stays", []string{"print 1a0 0", "add 0 6"}, []int{v, 0, 0}, 5, []int{0, 2, -2}, no, impl.ResOver, nil, []int{0, 2, -2}},
		{"over with what was added", []string{"add 0 4"}, []int{v, 0, 0}, 5, []int{2, 0, 0}, no, impl.ResOver, nil, []int{2, 0, 0}},
		{"over, ahead of a pot that may be", []string{"add 0 1", "add 1 6"}, []int{v, v, 0}, 5, none, no, impl.ResOver, nil, none},
		{"over, ahead of a pot behind it that may be", []string{"add 0 6", "add 1 1"}, []int{v, v, 0}, 5, none, no, impl.ResOver, nil, none},
		{"over, ahead of going too far", []string{"add 0 20"}, []int{v, 0, 0}, 5, none, no, impl.ResOver, nil, none},
		{"a pot that nobody adds to may be over", []string{"add 0 1"}, []int{0, v, 0}, 5, none, no, 0, nil, none},
		{"it tells alone, and a pot may be over", []string{"print 3"}, []int{0, -v, 0}, 5, none, no, 0, nil, none},
		{"it tells alone, and no other gives", []string{"print 3"}, []int{v, -v, v}, 0, none, no, impl.ResDone, []int{3}, none},
		{"just what may be added", []string{"add 1 2x0 0"}, []int{v, 1 - v, 0}, 0, none, no, impl.ResOver, nil, none},
		{"one beyond it", []string{"add 1 2x0 1"}, []int{v, 1 - v, 0}, 0, none, no, 0, nil, none},
		{"one beyond it with what was added", []string{"add 1 2x0 0"}, []int{v, 1 - v, 0}, 0, []int{0, 1, 0}, no, 0, nil, []int{0, 1, 0}},
		{"just what may be added, below 0", []string{"add 1 2x0 0"}, []int{-v, v - 1, 0}, 0, none, no, impl.ResOver, nil, none},
		{"one beyond it, below 0", []string{"add 1 2x0 -1"}, []int{-v, v - 1, 0}, 0, none, no, 0, nil, none},
		{"just what may be added, and not over", []string{"add 1 2x0 0"}, []int{v, -v, 0}, 0, none, no, 0, nil, none},
	})
}
