package tests

import (
	"math"
	"slices"
	"testing"

	"loop.example/concord/impl"
)

func sameParts(a, b [][]int) bool {
	return slices.EqualFunc(a, b, slices.Equal)
}

// someCats are lists of 1 to CatMax acts that are ok.
func someCats() [][][]impl.ActLine {
	acts := okActs()
	list := [][][]impl.ActLine{slices.Repeat(acts[:1], impl.CatMax)}
	for _, act := range acts {
		list = append(list, [][]impl.ActLine{act})
	}
	turn := &turning{state: 6}
	for range 400 {
		var cat [][]impl.ActLine
		for range 1 + (turn.next(9)+9)%impl.CatMax {
			cat = append(cat, acts[(turn.next(5000)+5000)%len(acts)])
		}
		list = append(list, cat)
	}
	return list
}

func wrongCats() [][][]impl.ActLine {
	fine := []impl.ActLine{telling(number(1))}
	list := [][][]impl.ActLine{nil, {}, slices.Repeat([][]impl.ActLine{fine}, impl.CatMax+1), make([][]impl.ActLine, impl.CatMax+1), make([][]impl.ActLine, 300)}
	for _, wrong := range wrongActs() {
		list = append(list, [][]impl.ActLine{wrong}, [][]impl.ActLine{wrong, fine, fine, fine}, [][]impl.ActLine{fine, wrong, fine}, [][]impl.ActLine{fine, fine, fine, wrong})
	}
	return list
}

func TestCatOk(t *testing.T) {
	for _, acts := range someCats() {
		if !impl.CatOk(acts) {
			t.Errorf("CatOk(%v) is false", acts)
		}
	}
	for _, acts := range wrongCats() {
		if impl.CatOk(acts) {
			t.Errorf("CatOk(%v) is true", acts)
		}
	}
	for many := range impl.CatMax + 3 {
		if got := impl.CatOk(make([][]impl.ActLine, many)); got != (many >= 1 && many <= impl.CatMax) {
			t.Errorf("CatOk of %d acts is %v", many, got)
		}
	}
}

func negated(numbers []int) []int {
	var list []int
	for _, n := range numbers {
		list = append(list, -n)
	}
	return list
}

func TestP54Part(t *testing.T) {
	for _, f := range okForms() {
		minus := impl.FrmTimes(f, -1)
		part := impl.CatPart(f)
		if !slices.Equal(part, impl.CatPart(minus)) {
			t.Errorf("CatPart(%v) is %v, and %v of -1 times it", f, part, impl.CatPart(minus))
		}
		if !slices.Equal(part, f.C) && !slices.Equal(part, minus.C) {
			t.Errorf("CatPart(%v) is %v", f, part)
		}
		if first := slices.IndexFunc(part, func(n int) bool { return n != 0 }); first >= 0 && part[first] < 0 {
			t.Errorf("CatPart(%v) is %v", f, part)
		}
	}
}

func TestP54PartOfAnyForm(t *testing.T) {
	const m = impl.FrmMax
	for _, c := range []struct{ c, part []int }{
		{[]int{0, 0, 0}, []int{0, 0, 0}},
		{[]int{-1, 0, 0}, []int{1, 0, 0}},
		{[]int{0, -1, 1}, []int{0, 1, -1}},
		{[]int{0, 1, -1}, []int{0, 1, -1}},
		{[]int{0, 0, -2}, []int{0, 0, 2}},
		{[]int{2, -4, 6}, []int{2, -4, 6}},
		{[]int{-2, 4, -6}, []int{2, -4, 6}},
		{[]int{-m, m, -m}, []int{m, -m, m}},
		{[]int{m, m, -m}, []int{m, m, -m}},
		{nil, nil},
		{[]int{}, nil},
		{[]int{-5}, []int{5}},
		{[]int{0, -5}, []int{0, 5}},
		{[]int{0, 0, 0, -5, 5}, []int{0, 0, 0, 5, -5}},
		{[]int{m + 1, -1, 0}, []int{m + 1, -1, 0}},
		{[]int{-m - 1, 1, 0}, []int{m + 1, -1, 0}},
		{[]int{math.MaxInt, 0, math.MinInt}, []int{math.MaxInt, 0, math.MinInt}},
		{[]int{-math.MaxInt, 1, 1}, []int{math.MaxInt, -1, -1}},
	} {
		for _, f := range []impl.FrmForm{{C: c.c}, {C: c.c, D: []int{-1, 2}, K: -3}, {C: c.c, D: []int{9}, K: math.MinInt}} {
			if part := impl.CatPart(f); !slices.Equal(part, c.part) {
				t.Errorf("CatPart(%v) is %v, not %v", f, part, c.part)
			}
		}
	}
}

func TestCatHas(t *testing.T) {
	list := [][]int{{1, 0, 0}, {0, 1, 0}, {1, -1, 0}, {0, 1, 0}, {}, {1, 0}, {math.MinInt}, nil, {1, 0, 0, 0}}
	for _, c := range []struct {
		part  []int
		place int
	}{
		{[]int{1, 0, 0}, 0}, {[]int{0, 1, 0}, 1}, {[]int{1, -1, 0}, 2}, {nil, 4}, {[]int{}, 4}, {[]int{1, 0}, 5}, {[]int{math.MinInt}, 6}, {[]int{1, 0, 0, 0}, 8},
		{[]int{-1, 1, 0}, -1}, {[]int{0, 0, 1}, -1}, {[]int{1}, -1}, {[]int{0, 0, 0}, -1},
	} {
		if got := impl.CatHas(list, c.part); got != c.place {
			t.Errorf("CatHas(%v) is %d, not %d", c.part, got, c.place)
		}
		if got := impl.CatHas(nil, c.part); got != -1 {
			t.Errorf("CatHas(%v) among none is %d", c.part, got)
		}
	}
}

// partsByHand goes by rows made by hand, and looks each part up in what is there already.
func partsByHand(acts [][]impl.ActLine) [][]int {
	parts := [][]int{{1, 0, 0}, {0, 1, 0}, {0, 0, 1}}
	for _, act := range acts {
		for _, r := range waysByHand(act) {
			for _, g := range r.Guards {
				part := slices.Clone(g.C)
				if slices.Compare(part, []int{0, 0, 0}) < 0 {
					part = negated(part)
				}
				known := slices.ContainsFunc(parts, func(other []int) bool { return slices.Equal(part, other) })
				if !known && !slices.Equal(part, []int{0, 0, 0}) {
					parts = append(parts, part)
				}
			}
		}
	}
	return parts
}

func TestP55FormsByHand(t *testing.T) {
	long := 0
	for _, acts := range someCats() {
		parts, want := impl.CatForms(acts), partsByHand(acts)
		if !sameParts(parts, want) {
			t.Fatalf("CatForms(%v) is %v, not %v", acts, parts, want)
		}
		if len(parts) > 5 {
			long++
		}
	}
	if long < 100 {
		t.Errorf("only %d lists have more than five parts", long)
	}
}

func TestP55EachOnce(t *testing.T) {
	for _, acts := range someCats() {
		parts := impl.CatForms(acts)
		for v := range impl.FrmPots {
			if impl.CatHas(parts, impl.FrmPot(v).C) != v {
				t.Fatalf("CatForms(%v) is %v, without the pot %d in its place", acts, parts, v)
			}
		}
		for i, part := range parts {
			if impl.CatHas(parts, part) != i || impl.CatHas(parts, negated(part)) != -1 || allIn(0, part) {
				t.Fatalf("CatForms(%v) is %v, wrong at %d", acts, parts, i)
			}
		}
		for _, act := range acts {
			for _, r := range impl.RowsOf(act) {
				for _, g := range r.Guards {
					if part := impl.CatPart(g); impl.CatHas(parts, part) < 0 && !allIn(0, part) {
						t.Fatalf("CatForms(%v) is %v, without %v", acts, parts, part)
					}
				}
			}
		}
	}
}

func TestP55FormsInTheirOrder(t *testing.T) {
	for _, c := range []struct {
		lines []string
		more  [][]int
	}{
		{nil, nil},
		{[]string{"stop"}, nil},
		{[]string{"add 0 1x1 0", "print 1x0 1x1 0"}, nil},
		{[]string{"test 1 5", "test 1 1a0 0"}, nil},
		{[]string{"test 1 1x0 -3", "test 1 -1x1 1a1 2"}, nil},
		{[]string{"test 1 -2x0 3"}, [][]int{{2, 0, 0}}},
		{[]string{"test 1 -1x0 1x1 0", "test 1 1x0 -1x1 7", "test 1 1x0 1x1 0"}, [][]int{{1, -1, 0}, {1, 1, 0}}},
		{[]string{"add 0 -1x0 0", "test 1 1x0 9"}, nil},
		{[]string{"test 1 1x0 1x1 0", "add 0 1x2 0", "test 1 1x0 1x1 0"}, [][]int{{1, 1, 0}, {1, 1, 1}}},
		{[]string{"test 1 1x2 0", "test 1 1x1 1x2 0", "test 1 1x0 1x2 0"}, [][]int{{0, 1, 1}, {1, 0, 1}}},
		{[]string{"test 1 1x0 1x1 0", "stop", "test 1 1x1 1x2 0"}, [][]int{{1, 1, 0}, {0, 1, 1}}},
		{[]string{"stop", "test 1 1x0 1x1 0"}, nil},
		{[]string{"test 1 0", "add 1 1x0 0", "test 1 1x1 1x2 0"}, [][]int{{1, 1, 1}, {0, 1, 1}}},
	} {
		act := actOf(t, c.lines...)
		want := append([][]int{{1, 0, 0}, {0, 1, 0}, {0, 0, 1}}, c.more...)
		if parts := impl.CatForms([][]impl.ActLine{act}); !sameParts(parts, want) {
			t.Errorf("CatForms of %v is %v, not %v", c.lines, parts, want)
		}
	}
	one, two := actOf(t, "test 1 1x0 1x1 0"), actOf(t, "test 1 1x1 1x2 0")
	if parts := impl.CatForms([][]impl.ActLine{two, one}); !sameParts(parts[3:], [][]int{{0, 1, 1}, {1, 1, 0}}) {
		t.Errorf("CatForms is %v", parts)
	}
}

func TestCatOfWhatIsNotOk(t *testing.T) {
	for _, acts := range wrongCats() {
		if parts, pins := impl.CatForms(acts), impl.CatPins(acts); len(parts) != 0 || len(pins) != 0 {
			t.Fatalf("of %v CatForms is %v, and CatPins %v", acts, parts, pins)
		}
	}
	for _, act := range wrongActs() {
		if reads, writes := impl.CatReads(act), impl.CatWrites(act); len(reads) != 0 || len(writes) != 0 {
			t.Fatalf("of %v CatReads is %v, and CatWrites %v", act, reads, writes)
		}
	}
}

func noLess(more, less []bool) bool {
	for v, is := range less {
		if is && !more[v] {
			return false
		}
	}
	return len(more) == len(less)
}

func TestP56WithAnActMore(t *testing.T) {
	cats := someCats()
	for i, acts := range cats {
		if len(acts) == impl.CatMax {
			continue
		}
		parts, pins := impl.CatForms(acts), impl.CatPins(acts)
		more := append(slices.Clone(acts), cats[(i*7+1)%len(cats)][0])
		if longer := impl.CatForms(more); len(longer) < len(parts) || !sameParts(longer[:len(parts)], parts) {
			t.Fatalf("CatForms(%v) is %v, and was %v", more, longer, parts)
		}
		if longer := impl.CatPins(more); !noLess(longer, pins) {
			t.Fatalf("CatPins(%v) is %v, and was %v", more, longer, pins)
		}
		for _, act := range acts {
			twice := append(slices.Clone(acts), act)
			if !sameParts(impl.CatForms(twice), parts) || !slices.Equal(impl.CatPins(twice), pins) {
				t.Fatalf("of %v CatForms is %v and CatPins %v, and was %v and %v", twice, impl.CatForms(twice), impl.CatPins(twice), parts, pins)
			}
		}
	}
}

func TestP57PinsAreWhatSomeActReads(t *testing.T) {
	pinned, free := 0, 0
	for _, acts := range someCats() {
		pins := impl.CatPins(acts)
		if len(pins) != impl.FrmPots {
			t.Fatalf("CatPins(%v) is %v", acts, pins)
		}
		for v, is := range pins {
			reads := slices.ContainsFunc(acts, func(act []impl.ActLine) bool { return impl.CatReads(act)[v] })
			if is != reads {
				t.Fatalf("CatPins(%v) is %v, wrong at %d", acts, pins, v)
			}
			if is {
				pinned++
			} else {
				free++
			}
		}
	}
	if pinned < 100 || free < 100 {
		t.Errorf("%d pots are pinned, %d are not", pinned, free)
	}
}

// By Adds a pot is pinned in whatever pot's form it is, its own too; guards, and ways that stop, pin nothing.
func TestP57WhichPotsArePinned(t *testing.T) {
	for _, c := range []struct {
		lines         []string
		reads, writes []bool
	}{
		{nil, []bool{false, false, false}, []bool{false, false, false}},
		{[]string{"add 0 1"}, []bool{false, false, false}, []bool{true, false, false}},
		{[]string{"add 1 -1a0 0"}, []bool{false, false, false}, []bool{false, true, false}},
		{[]string{"add 2 1a1 0", "add 2 1"}, []bool{false, false, false}, []bool{false, false, true}},
		{[]string{"print 1x2 0"}, []bool{false, false, true}, []bool{false, false, false}},
		{[]string{"print -1x0 1a0 0"}, []bool{true, false, false}, []bool{false, false, false}},
		{[]string{"print 3", "print 1a0 0"}, []bool{false, false, false}, []bool{false, false, false}},
		{[]string{"add 0 1x1 0"}, []bool{false, true, false}, []bool{true, false, false}},
		{[]string{"add 0 1x0 0"}, []bool{true, false, false}, []bool{true, false, false}},
		{[]string{"add 2 -1x2 0"}, []bool{false, false, true}, []bool{false, false, true}},
		{[]string{"add 0 1x1 0", "add 0 -1x1 0"}, []bool{false, false, false}, []bool{false, false, false}},
		{[]string{"add 0 1", "add 0 -1"}, []bool{false, false, false}, []bool{false, false, false}},
		{[]string{"add 0 1a0 0", "add 0 -1a0 0", "add 1 0"}, []bool{false, false, false}, []bool{false, false, false}},
		{[]string{"add 0 -1x0 0", "print 1x0 0"}, []bool{true, false, false}, []bool{true, false, false}},
		{[]string{"add 0 -1x0 1x1 0", "print 1x0 0"}, []bool{true, true, false}, []bool{true, false, false}},
		{[]string{"add 0 2x2 0", "add 1 1x0 0"}, []bool{true, false, true}, []bool{true, true, false}},
		{[]string{"test 1 1x0 1x1 0", "add 2 1"}, []bool{false, false, false}, []bool{false, false, true}},
		{[]string{"test 1 1x0 0", "add 1 1"}, []bool{false, false, false}, []bool{false, true, false}},
		{[]string{"test 1 1x0 0", "print 1x1 0", "stop"}, []bool{false, false, false}, []bool{false, false, false}},
		{[]string{"print 1x0 0", "add 1 1x2 0", "stop"}, []bool{false, false, false}, []bool{false, false, false}},
		{[]string{"test 2 1x0 0", "print 1x1 0", "stop", "add 0 1x2 0"}, []bool{false, false, true}, []bool{true, false, false}},
		{[]string{"test 1 5", "stop", "print 1x1 0"}, []bool{false, true, false}, []bool{false, false, false}},
		{[]string{"test 1 -5", "add 2 1"}, []bool{false, false, false}, []bool{false, false, true}},
	} {
		act := actOf(t, c.lines...)
		if reads := impl.CatReads(act); !slices.Equal(reads, c.reads) {
			t.Errorf("CatReads of %v is %v", c.lines, reads)
		}
		if writes := impl.CatWrites(act); !slices.Equal(writes, c.writes) {
			t.Errorf("CatWrites of %v is %v", c.lines, writes)
		}
		if pins := impl.CatPins([][]impl.ActLine{nil, act, {stopping()}}); !slices.Equal(pins, c.reads) {
			t.Errorf("CatPins of %v is %v", c.lines, pins)
		}
	}
}

func TestReadsAndWritesByHand(t *testing.T) {
	for _, act := range okActs() {
		reads, writes := make([]bool, impl.FrmPots), make([]bool, impl.FrmPots)
		for _, r := range waysByHand(act) {
			for _, f := range slices.Concat(r.Adds, r.Tells) {
				for v := range reads {
					reads[v] = reads[v] || f.C[v] != 0
				}
			}
			for v, f := range r.Adds {
				writes[v] = writes[v] || !allIn(0, numbersOf(f))
			}
		}
		if got := impl.CatReads(act); !slices.Equal(got, reads) {
			t.Fatalf("CatReads(%v) is %v, not %v", act, got, reads)
		}
		if got := impl.CatWrites(act); !slices.Equal(got, writes) {
			t.Fatalf("CatWrites(%v) is %v, not %v", act, got, writes)
		}
	}
}

// simpleActs read few pots, so that others are left to differ.
func simpleActs() [][]impl.ActLine {
	turn := &turning{state: 7}
	few := func() impl.FrmForm {
		f := number(turn.next(9))
		if n := turn.next(4); n >= 2 {
			f.C[n-2] = turn.next(2)
		}
		f.D[0] = turn.next(1)
		return f
	}
	var list [][]impl.ActLine
	for range 600 {
		list = append(list, []impl.ActLine{asking(2, turn.form(1)), adding(1+turn.next(1), few()), telling(few()), asking(1, turn.form(1)), adding(1+turn.next(1), few()), telling(few())})
	}
	return list
}

func rowThatFits(rows []impl.RowRow, vals, args []int) int {
	return slices.IndexFunc(rows, func(r impl.RowRow) bool { return impl.RowFits(r, vals, args) })
}

func differences(a, b []int) []int {
	var list []int
	for i, n := range a {
		list = append(list, n-b[i])
	}
	return list
}

func TestP58WhatIsNotReadTurnsNothing(t *testing.T) {
	held := 0
	turn := &turning{state: 8}
	for _, act := range append(simpleActs(), okActs()...) {
		rows, reads := impl.RowsOf(act), impl.CatReads(act)
		for range 20 {
			one, args := []int{turn.next(20), turn.next(20), turn.next(20)}, []int{turn.next(9), turn.next(9)}
			two := slices.Clone(one)
			for v, is := range reads {
				if !is {
					two[v] = turn.next(20)
				}
			}
			a, aPots := impl.ActRun(act, one, args)
			b, bPots := impl.ActRun(act, two, args)
			if slices.Equal(one, two) || a.Code != impl.ResDone || b.Code != impl.ResDone || rowThatFits(rows, one, args) != rowThatFits(rows, two, args) {
				continue
			}
			held++
			if !sameResult(a, b) || !slices.Equal(differences(aPots, one), differences(bPots, two)) {
				t.Fatalf("%v reads %v: at %v it is %v and %v, at %v it is %v and %v", act, reads, one, a, aPots, two, b, bPots)
			}
		}
	}
	if held < 1000 {
		t.Errorf("only %d pairs of states were held against each other", held)
	}
}

func TestP59WhatIsNotWrittenStays(t *testing.T) {
	stayed := 0
	for _, act := range append(simpleActs(), okActs()...) {
		writes := impl.CatWrites(act)
		everywhere(func(vals, args []int) {
			r, pots := impl.ActRun(act, vals, args)
			for v, is := range writes {
				if !is && pots[v] != vals[v] {
					t.Fatalf("%v writes %v: from %v it leaves %v", act, writes, vals, pots)
				}
				if !is && r.Code == impl.ResDone {
					stayed++
				}
			}
		})
	}
	if stayed < 1000 {
		t.Errorf("only %d pots were held against what they had", stayed)
	}
}
