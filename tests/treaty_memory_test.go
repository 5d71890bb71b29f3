package tests

import (
	"slices"
	"testing"

	"loop.example/concord/impl"
)

func roomyParts(parts [][]int) [][]int {
	var long [][]int
	for _, part := range parts {
		long = append(long, roomy(part))
	}
	return append(long, []int{mark})[:len(parts)]
}

func checkPartsAsTheyWere(t *testing.T, name string, parts, before [][]int) {
	t.Helper()
	if !sameParts(parts, before) || !slices.Equal(parts[:len(parts)+1][len(parts)], []int{mark}) {
		t.Errorf("%s: the lists are %v, and were %v", name, parts, before)
	}
	for _, part := range parts {
		if !roomIsMarked(part) {
			t.Errorf("%s: behind a list's end is written", name)
		}
	}
}

// checkGiven asks that lists made by roomy are what they were, by name.
func checkGiven(t *testing.T, name string, lists, before [][]int) {
	t.Helper()
	for i, list := range lists {
		if !slices.Equal(list, before[i]) || !roomIsMarked(list) {
			t.Errorf("%s: the list %d that was handed in is %v, and was %v", name, i, list, before[i])
		}
	}
}

func TestTreatiesTurnNothing(t *testing.T) {
	numbers := [][]int{{20, 5, 0}, {10, 6}, {3, -2, 1}, {1, 2}}
	base, gives, added, args := roomy(numbers[0]), roomy(numbers[1]), roomy(numbers[2]), roomy(numbers[3])
	tr := impl.TrtTreaty{Base: base, Gives: gives}
	parts, all := roomyParts(someParts()[3]), roomyParts([][]int{{1, 0, 0}, {0, -1, 0}})
	f := roomyForm(form(-1, 1, 0, 2, -1, 4))
	impl.TrtOk(tr)
	impl.TrtOthers(tr, 1)
	if !impl.TrtKeeps(tr, parts, 0, added) || !impl.TrtAll(tr, parts, all) {
		t.Fatal("what was added does not keep")
	}
	if _, _, known := impl.TrtBounds(tr, parts, 0, added, f, args); !known {
		t.Fatal("the form is not known")
	}
	checkGiven(t, "TrtBounds", [][]int{base, gives, added, args}, numbers)
	checkPartsAsTheyWere(t, "TrtBounds", parts, someParts()[3])
	checkPartsAsTheyWere(t, "TrtAll", all, [][]int{{1, 0, 0}, {0, -1, 0}})
	checkFormsAsTheyWere(t, append([]impl.FrmForm{f}, number(mark), number(mark))[:1], []impl.FrmForm{form(-1, 1, 0, 2, -1, 4)})
}

// Each end of LocTry hands out lists of its own, and what was handed in stays.
func TestAnswersOfLocTryAreNewMemory(t *testing.T) {
	const v = impl.ValMax
	for _, c := range []struct {
		name  string
		lines []string
		base  []int
		code  int
		then  []int
	}{
		{"done", []string{"print 1x2 0", "add 0 3", "test 1 1x0 0", "print 4", "print 5"}, []int{20, 0, 7}, impl.ResDone, []int{4, 0, 0}},
		{"done with nothing added", []string{"print 1x2 0"}, []int{20, 0, 7}, impl.ResDone, []int{1, 0, 0}},
		{"stopped", []string{"test 1 1x0 0", "stop"}, []int{20, 0, 7}, impl.ResStopped, []int{1, 0, 0}},
		{"over", []string{"print 1x2 0", "add 1 20"}, []int{20, v, 7}, impl.ResOver, []int{1, 0, 0}},
		{"not sure", []string{"test 1 1x0 0", "stop"}, []int{2, 0, 7}, 0, []int{1, 0, 0}},
		{"pinned", []string{"add 2 1x2 0"}, []int{2, 0, 7}, 0, []int{1, 0, 0}},
		{"maybe over", []string{"add 1 1"}, []int{20, v, 7}, 0, []int{1, 0, 0}},
		{"too far", []string{"add 0 10"}, []int{20, 0, 7}, 0, []int{1, 0, 0}},
	} {
		lines := actOf(t, c.lines...)
		numbers := [][]int{c.base, {10, 6}, {1, 0, 0}, {1, 2}}
		base, gives, added, args := roomy(numbers[0]), roomy(numbers[1]), roomy(numbers[2]), roomy(numbers[3])
		long := [][]impl.ActLine{roomyAct(lines), {{Kind: mark}}}
		for range 2 {
			r, then, could := impl.LocTry(long[:1], impl.TrtTreaty{Base: base, Gives: gives}, 0, added, 0, args)
			if r.Code != c.code || !slices.Equal(then, c.then) || could != (c.code != 0) {
				t.Fatalf("%s: LocTry is %v, %v, %v", c.name, r, then, could)
			}
			checkNumbersApart(t, c.name, [][]int{r.Tells, then})
			checkGiven(t, c.name, [][]int{base, gives, added, args}, numbers)
			checkActAsItWas(t, long[0], lines)
		}
		if long[1][0].Kind != mark {
			t.Errorf("%s: behind the acts stands %v", c.name, long[1])
		}
	}
}
