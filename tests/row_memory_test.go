package tests

import (
	"slices"
	"testing"

	"loop.example/concord/impl"
)

// checkApart fills each list, spare room included, with a mark of its own, and then looks whether all marks still stand.
func checkApart[T any](t *testing.T, name string, lists [][]T, markOf func(i int) T, is func(one T, i int) bool) {
	t.Helper()
	for i, list := range lists {
		all := list[:cap(list)]
		for place := range all {
			all[place] = markOf(i)
		}
	}
	for i, list := range lists {
		for _, one := range list[:cap(list)] {
			if !is(one, i) {
				t.Fatalf("%s: the list %d shares memory with another one", name, i)
			}
		}
	}
}

func checkNumbersApart(t *testing.T, name string, lists [][]int) {
	t.Helper()
	checkApart(t, name, lists, func(i int) int { return 1000 + i }, func(n int, i int) bool { return n == 1000+i })
}

func checkFormsApart(t *testing.T, name string, lists [][]impl.FrmForm) {
	t.Helper()
	var numbers [][]int
	for _, forms := range lists {
		for _, f := range forms {
			numbers = append(numbers, f.C, f.D)
		}
	}
	checkNumbersApart(t, name, numbers)
	checkApart(t, name, lists, func(i int) impl.FrmForm { return impl.FrmForm{K: i} }, func(f impl.FrmForm, i int) bool { return f.K == i })
}

func TestAnswersOfRowsOfAreNewMemory(t *testing.T) {
	for _, act := range okActs() {
		given := roomyAct(act)
		var lists [][]impl.FrmForm
		rows := impl.RowsOf(given)
		for _, r := range rows {
			lists = append(lists, r.Guards, r.Adds, r.Tells)
		}
		checkFormsApart(t, "RowsOf", lists)
		for i := range rows[:cap(rows)] {
			rows[:cap(rows)][i] = impl.RowRow{Stop: true}
		}
		checkActAsItWas(t, given, act)
		if again := impl.RowsOf(given); !slices.EqualFunc(again, waysByHand(act), sameRow) {
			t.Fatalf("once more RowsOf(%v) is %v", act, again)
		}
	}
}

func roomyForms(forms []impl.FrmForm) []impl.FrmForm {
	var long []impl.FrmForm
	for _, f := range forms {
		long = append(long, roomyForm(f))
	}
	return append(long, number(mark), number(mark))[:len(forms)]
}

func checkFormsAsTheyWere(t *testing.T, forms, before []impl.FrmForm) {
	t.Helper()
	for i, f := range forms {
		if !sameForm(f, before[i]) || !roomIsMarked(f.C) || !roomIsMarked(f.D) {
			t.Errorf("the form %d is %v, and was %v", i, f, before[i])
		}
	}
	for _, f := range forms[len(forms):cap(forms)][:2] {
		if !sameForm(f, number(mark)) {
			t.Errorf("behind the end stands %v", f)
		}
	}
}

// Each of the three ends of a row hands out pots of its own, and what was handed in stays.
func TestAnswersOfRowDoAreNewMemory(t *testing.T) {
	zeros := []impl.FrmForm{number(0), number(0), number(0)}
	for _, row := range []impl.RowRow{
		{Guards: []impl.FrmForm{pot(0)}, Adds: []impl.FrmForm{pot(1), number(2), number(0)}, Tells: []impl.FrmForm{pot(0), pot(1)}},
		{Guards: []impl.FrmForm{pot(0)}, Adds: zeros},
		{Guards: []impl.FrmForm{pot(0)}, Adds: []impl.FrmForm{number(0), number(0), number(20000)}, Tells: zeros},
		{Guards: []impl.FrmForm{pot(0)}, Stop: true},
	} {
		given := impl.RowRow{Guards: roomyForms(row.Guards), Adds: roomyForms(row.Adds), Tells: roomyForms(row.Tells), Stop: row.Stop}
		vals, args := roomy([]int{5, 6, 7}), roomy([]int{1, 2})
		r, pots := impl.RowDo(given, vals, args)
		want, wantPots := goneByHand(row, vals, args)
		if !sameResult(r, want) || !slices.Equal(pots, wantPots) {
			t.Errorf("RowDo(%v) is %v and %v", row, r, pots)
		}
		checkNumbersApart(t, "RowDo", [][]int{r.Tells, pots})
		impl.RowOk(given)
		impl.RowFits(given, vals, args)
		checkFormsAsTheyWere(t, given.Guards, row.Guards)
		checkFormsAsTheyWere(t, given.Adds, row.Adds)
		checkFormsAsTheyWere(t, given.Tells, row.Tells)
		if !slices.Equal(vals, []int{5, 6, 7}) || !roomIsMarked(vals) || !slices.Equal(args, []int{1, 2}) || !roomIsMarked(args) {
			t.Errorf("RowDo(%v): handed in were %v and %v", row, vals, args)
		}
	}
}
