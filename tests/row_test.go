package tests

import (
	"slices"
	"testing"

	"loop.example/concord/impl"
)

type rowTexts struct {
	guards, adds, tells []string
	stop                bool
}

func checkRows(t *testing.T, act []impl.ActLine, want ...rowTexts) {
	t.Helper()
	rows := impl.RowsOf(act)
	if len(rows) != len(want) {
		t.Fatalf("RowsOf(%v) has %d rows, not %d: %v", act, len(rows), len(want), rows)
	}
	for i, r := range rows {
		w := want[i]
		if !slices.Equal(textsOf(r.Guards), w.guards) || !slices.Equal(textsOf(r.Adds), w.adds) || !slices.Equal(textsOf(r.Tells), w.tells) || r.Stop != w.stop {
			t.Errorf("RowsOf(%v): the row %d is %v, not %v", act, i, r, w)
		}
	}
}

func TestRowsOfAnActWithoutTests(t *testing.T) {
	none := []string{"0", "0", "0"}
	checkRows(t, nil, rowTexts{adds: none})
	checkRows(t, actOf(t, "stop"), rowTexts{stop: true})
	checkRows(t, actOf(t, "add 0 1", "print 5", "stop", "print 6"), rowTexts{stop: true})
	checkRows(t, actOf(t, "print 1x0 0", "add 0 1x1 3", "print 1x0 0", "add 1 1x0 1a1 0", "print 1x1 0"),
		rowTexts{adds: []string{"1x1 3", "1x0 1x1 1a1 3", "0"}, tells: []string{"1x0 0", "1x0 1x1 3", "1x0 2x1 1a1 3"}})
	checkRows(t, actOf(t, "add 0 1x1 0", "add 1 1x0 0", "add 0 -1x1 0"),
		rowTexts{adds: []string{"-1x0 -1x1 0", "1x0 1x1 0", "0"}})
	checkRows(t, actOf(t, "add 2 1x2 0", "add 2 -1x2 0", "print 1x2 0"), rowTexts{adds: []string{"0", "0", "-1x2 0"}, tells: []string{"0"}})
}

// At each test the ways as if it held come first, and a test that is left out is in no guard.
func TestRowsOfInTheirOrder(t *testing.T) {
	none := []string{"0", "0", "0"}
	checkRows(t, actOf(t, "test 1 1x0 0", "print 1", "test 1 1x1 0", "print 2", "test 1 1x2 0", "print 3"),
		rowTexts{guards: []string{"1x0 0", "1x1 0", "1x2 0"}, adds: none, tells: []string{"1", "2", "3"}},
		rowTexts{guards: []string{"1x0 0", "1x1 0", "-1x2 -1"}, adds: none, tells: []string{"1", "2"}},
		rowTexts{guards: []string{"1x0 0", "-1x1 -1", "1x2 0"}, adds: none, tells: []string{"1", "3"}},
		rowTexts{guards: []string{"1x0 0", "-1x1 -1", "-1x2 -1"}, adds: none, tells: []string{"1"}},
		rowTexts{guards: []string{"-1x0 -1", "1x1 0", "1x2 0"}, adds: none, tells: []string{"2", "3"}},
		rowTexts{guards: []string{"-1x0 -1", "1x1 0", "-1x2 -1"}, adds: none, tells: []string{"2"}},
		rowTexts{guards: []string{"-1x0 -1", "-1x1 -1", "1x2 0"}, adds: none, tells: []string{"3"}},
		rowTexts{guards: []string{"-1x0 -1", "-1x1 -1", "-1x2 -1"}, adds: none})
	checkRows(t, actOf(t, "test 1 1x0 0", "test 1 1x1 0", "test 1 1x2 0", "print 1"),
		rowTexts{guards: []string{"1x0 0", "1x1 0", "1x2 0"}, adds: none, tells: []string{"1"}},
		rowTexts{guards: []string{"1x0 0", "1x1 0", "-1x2 -1"}, adds: none},
		rowTexts{guards: []string{"1x0 0", "-1x1 -1"}, adds: none, tells: []string{"1"}},
		rowTexts{guards: []string{"-1x0 -1", "1x2 0"}, adds: none, tells: []string{"1"}},
		rowTexts{guards: []string{"-1x0 -1", "-1x2 -1"}, adds: none})
}

// Both ways are there even where a test is of a number, is the last line, or leaves out more than there is.
func TestRowsOfTestsThatTurnLittle(t *testing.T) {
	none := []string{"0", "0", "0"}
	checkRows(t, actOf(t, "test 1 3"), rowTexts{guards: []string{"3"}, adds: none}, rowTexts{guards: []string{"-4"}, adds: none})
	checkRows(t, actOf(t, "test 6 0", "print 1"), rowTexts{guards: []string{"0"}, adds: none, tells: []string{"1"}}, rowTexts{guards: []string{"-1"}, adds: none})
	checkRows(t, actOf(t, "test 6 -1a0 0", "test 6 1a1 2", "stop"),
		rowTexts{guards: []string{"-1a0 0", "1a1 2"}, stop: true},
		rowTexts{guards: []string{"-1a0 0", "-1a1 -3"}, adds: none},
		rowTexts{guards: []string{"1a0 -1"}, adds: none})
	checkRows(t, actOf(t, "test 1 2x0 -1x2 2a0 7"),
		rowTexts{guards: []string{"2x0 -1x2 2a0 7"}, adds: none}, rowTexts{guards: []string{"-2x0 1x2 -2a0 -8"}, adds: none})
}

// What stands behind a stop is gone by no way, and what stands ahead of it leaves its tests alone.
func TestRowsOfStops(t *testing.T) {
	checkRows(t, actOf(t, "add 0 5", "print 1", "test 1 1x0 0", "stop", "print 2"),
		rowTexts{guards: []string{"1x0 5"}, stop: true},
		rowTexts{guards: []string{"-1x0 -6"}, adds: []string{"5", "0", "0"}, tells: []string{"1", "2"}})
	checkRows(t, actOf(t, "stop", "test 1 1x0 0", "test 1 1x1 0"), rowTexts{stop: true})
	checkRows(t, actOf(t, "test 1 1x1 0", "add 1 -1", "test 2 1x1 0", "stop", "test 1 1x2 0"),
		rowTexts{guards: []string{"1x1 0", "1x1 -1"}, stop: true},
		rowTexts{guards: []string{"1x1 0", "-1x1 0"}, adds: []string{"0", "-1", "0"}},
		rowTexts{guards: []string{"-1x1 -1", "1x1 0"}, stop: true},
		rowTexts{guards: []string{"-1x1 -1", "-1x1 -1"}, adds: []string{"0", "0", "0"}})
}

func TestRowsOfByHand(t *testing.T) {
	for _, act := range append(okActs(), growingActs()...) {
		rows, want := impl.RowsOf(act), waysByHand(act)
		if !slices.EqualFunc(rows, want, sameRow) {
			t.Fatalf("RowsOf(%v) is %v, not %v", act, rows, want)
		}
	}
}

func TestRowsOfWhatIsNotOk(t *testing.T) {
	for _, wrong := range wrongActs() {
		if rows := impl.RowsOf(wrong); len(rows) != 0 {
			t.Errorf("RowsOf(%v) is %v", wrong, rows)
		}
	}
}

// checkOneWay asks that one row fits, and that to go it is to do the act; it answers the code.
func checkOneWay(t *testing.T, act []impl.ActLine, rows []impl.RowRow, vals, args []int) int {
	t.Helper()
	var fitting []impl.RowRow
	for _, r := range rows {
		if impl.RowFits(r, vals, args) {
			fitting = append(fitting, r)
		}
	}
	if len(fitting) != 1 {
		t.Fatalf("%d rows of %v fit %v and %v", len(fitting), act, vals, args)
	}
	r, pots := impl.RowDo(fitting[0], vals, args)
	want, wantPots := impl.ActRun(act, vals, args)
	if !sameResult(r, want) || !slices.Equal(pots, wantPots) {
		t.Fatalf("RowDo(%v, %v, %v) is %v and %v, ActRun of %v is %v and %v", fitting[0], vals, args, r, pots, act, want, wantPots)
	}
	return r.Code
}

func TestP50OneWayFitsAndDoesTheAct(t *testing.T) {
	codes := map[int]int{}
	turn := &turning{state: 5}
	for _, act := range okActs() {
		rows := impl.RowsOf(act)
		everywhere(func(vals, args []int) { codes[checkOneWay(t, act, rows, vals, args)]++ })
		for range 20 {
			vals, args := []int{turn.next(30), turn.next(30), turn.next(30)}, []int{turn.next(9), turn.next(9)}
			codes[checkOneWay(t, act, rows, vals, args)]++
		}
	}
	for _, code := range []int{impl.ResDone, impl.ResStopped, impl.ResOver} {
		if codes[code] < 1000 {
			t.Errorf("the code %d came only %d times", code, codes[code])
		}
	}
}

// Just at 0 a test holds, and just below it does not.
func TestP50AtTheEdgeOfATest(t *testing.T) {
	act := actOf(t, "add 0 -1a0 0", "test 1 2x0 -1x1 3", "print 1", "test 1 -1x2 0", "stop", "print 2")
	rows := impl.RowsOf(act)
	for x := -6; x <= 6; x++ {
		for y := -6; y <= 6; y++ {
			for z := -1; z <= 1; z++ {
				checkOneWay(t, act, rows, []int{x, y, z}, []int{1, 0})
			}
		}
	}
}

func TestP51HowManyRows(t *testing.T) {
	most := 0
	for _, act := range append(okActs(), growingActs()...) {
		rows := impl.RowsOf(act)
		if len(rows) < 1 || len(rows) > 1<<testsOf(act) {
			t.Fatalf("RowsOf(%v) has %d rows", act, len(rows))
		}
		most = max(most, len(rows))
		for _, r := range rows {
			if !impl.RowOk(r) {
				t.Fatalf("RowsOf(%v) has %v, which is not ok", act, r)
			}
		}
	}
	if most != 1<<impl.ActMaxTest {
		t.Errorf("the most ways are %d", most)
	}
}

// No act gets near FrmMax, so that no sum, and no -1 times a form, less 1, is ever beyond it.
func TestP51TheGreatestNumbers(t *testing.T) {
	most := 0
	for _, act := range growingActs() {
		for _, r := range impl.RowsOf(act) {
			most = max(most, greatest(r.Guards), greatest(r.Adds), greatest(r.Tells))
		}
	}
	if most < 5000 || most > impl.FrmMax/2 {
		t.Errorf("the greatest number is %d", most)
	}
}

func TestRowOk(t *testing.T) {
	for _, r := range okRows() {
		if !impl.RowOk(r) {
			t.Errorf("RowOk(%v) is false", r)
		}
	}
	for _, r := range wrongRows() {
		if impl.RowOk(r) {
			t.Errorf("RowOk(%v) is true", r)
		}
	}
}

func TestP52Fits(t *testing.T) {
	fits, fitsNot := 0, 0
	for _, r := range okRows() {
		everywhere(func(vals, args []int) {
			want := true
			for _, g := range r.Guards {
				want = want && mustAt(t, g, vals, args) >= 0
			}
			if got := impl.RowFits(r, vals, args); got != want {
				t.Fatalf("RowFits(%v, %v, %v) is %v", r, vals, args, got)
			}
			if want {
				fits++
			} else {
				fitsNot++
			}
		})
	}
	if fits < 1000 || fitsNot < 1000 {
		t.Errorf("%d fit, and %d do not", fits, fitsNot)
	}
}

func TestP52FitsNotWhatIsNotOk(t *testing.T) {
	vals, args := []int{1, 1, 1}, []int{1, 1}
	for _, wrong := range wrongRows() {
		if impl.RowFits(wrong, vals, args) {
			t.Errorf("%v fits", wrong)
		}
	}
	for _, r := range []impl.RowRow{{Stop: true}, {Adds: []impl.FrmForm{number(0), number(0), number(0)}}} {
		if !impl.RowFits(r, vals, args) {
			t.Errorf("%v does not fit", r)
		}
		for _, wrong := range wrongVals() {
			if impl.RowFits(r, wrong, args) {
				t.Errorf("%v fits %v", r, wrong)
			}
		}
		for _, wrong := range wrongArgs() {
			if impl.RowFits(r, vals, wrong) {
				t.Errorf("%v fits %v", r, wrong)
			}
		}
	}
}

// goneByHand is what comes of a row that is ok.
func goneByHand(r impl.RowRow, vals, args []int) (impl.ResResult, []int) {
	if r.Stop {
		return impl.ResResult{Code: impl.ResStopped}, vals
	}
	var pots, tells []int
	for v, f := range r.Adds {
		pots = append(pots, vals[v]+valueOf(f, vals, args))
	}
	for _, f := range r.Tells {
		tells = append(tells, valueOf(f, vals, args))
	}
	if !allIn(impl.ValMax, pots) {
		return impl.ResResult{Code: impl.ResOver}, vals
	}
	return impl.ResResult{Code: impl.ResDone, Tells: tells}, pots
}

// All forms are taken at what the pots had, and it is not asked whether the row fits.
func TestP53Do(t *testing.T) {
	codes := map[int]int{}
	for _, row := range okRows() {
		everywhere(func(vals, args []int) {
			r, pots := impl.RowDo(row, vals, args)
			want, wantPots := goneByHand(row, vals, args)
			if !sameResult(r, want) || !slices.Equal(pots, wantPots) {
				t.Fatalf("RowDo(%v, %v, %v) is %v and %v, not %v and %v", row, vals, args, r, pots, want, wantPots)
			}
			codes[r.Code]++
		})
	}
	for _, code := range []int{impl.ResDone, impl.ResStopped, impl.ResOver} {
		if codes[code] < 1000 {
			t.Errorf("the code %d came only %d times", code, codes[code])
		}
	}
}

func TestP53DoAtTheEnds(t *testing.T) {
	const m = impl.ValMax
	for v := range impl.FrmPots {
		for _, sign := range []int{1, -1} {
			vals, atEnd := []int{1, 2, 3}, []int{1, 2, 3}
			vals[v], atEnd[v] = sign*(m-1), sign*m
			row := impl.RowRow{Guards: []impl.FrmForm{number(-1)}, Adds: []impl.FrmForm{number(0), number(0), number(0)}, Tells: []impl.FrmForm{pot(v)}}
			row.Adds[v] = number(sign)
			if r, pots := impl.RowDo(row, vals, []int{0, 0}); !sameResult(r, impl.ResResult{Code: impl.ResDone, Tells: []int{sign * (m - 1)}}) || !slices.Equal(pots, atEnd) {
				t.Errorf("RowDo(%v, %v) is %v and %v", row, vals, r, pots)
			}
			row.Adds[v] = number(2 * sign)
			if r, pots := impl.RowDo(row, vals, []int{0, 0}); !sameResult(r, impl.ResResult{Code: impl.ResOver}) || !slices.Equal(pots, vals) {
				t.Errorf("RowDo(%v, %v) is %v and %v", row, vals, r, pots)
			}
		}
	}
}

func TestP53DoOfWhatIsNotOk(t *testing.T) {
	check := func(r impl.RowRow, vals, args []int) {
		t.Helper()
		if res, pots := impl.RowDo(r, vals, args); !sameResult(res, impl.ResResult{}) || len(pots) != 0 {
			t.Errorf("RowDo(%v, %v, %v) is %v and %v", r, vals, args, res, pots)
		}
	}
	vals, args := []int{1, 1, 1}, []int{1, 1}
	for _, wrong := range wrongRows() {
		check(wrong, vals, args)
	}
	for _, r := range []impl.RowRow{{Stop: true}, {Adds: []impl.FrmForm{number(0), number(0), number(0)}, Tells: []impl.FrmForm{number(1)}}} {
		for _, wrong := range wrongVals() {
			check(r, wrong, args)
		}
		for _, wrong := range wrongArgs() {
			check(r, vals, wrong)
		}
	}
}
