package tests

import (
	"slices"
	"testing"

	"loop.example/concord/impl"
)

func TestAnswersOfCatPartAreNewMemory(t *testing.T) {
	for _, c := range [][]int{{1, -2, 3}, {-1, 2, -3}, {0, 0, 0}, {}, {-4}} {
		f := impl.FrmForm{C: roomy(c), D: roomy([]int{-1, 1}), K: 2}
		scribble(impl.CatPart(f))
		if !slices.Equal(f.C, c) || !roomIsMarked(f.C) || !slices.Equal(f.D, []int{-1, 1}) || !roomIsMarked(f.D) {
			t.Errorf("the form is %v, and its C was %v", f, c)
		}
	}
}

func TestCatHasTurnsNothing(t *testing.T) {
	part := roomy([]int{0, 1, 0})
	long := [][]int{roomy([]int{1, 0, 0}), roomy([]int{0, 1, 0}), {mark}}
	impl.CatHas(long[:2], part)
	if !sameParts(long, [][]int{{1, 0, 0}, {0, 1, 0}, {mark}}) || !roomIsMarked(long[0]) || !roomIsMarked(long[1]) || !slices.Equal(part, []int{0, 1, 0}) || !roomIsMarked(part) {
		t.Errorf("the list is %v, the part %v", long, part)
	}
}

func TestAnswersOfCatAreNewMemory(t *testing.T) {
	lines := actOf(t, "test 2 1x0 -1x1 0", "add 0 1x1 0", "print 1x2 0", "test 1 1x1 1x2 1a0 3", "add 2 1")
	for _, many := range []int{1, impl.CatMax} {
		var long, acts [][]impl.ActLine
		for range many {
			long = append(long, roomyAct(lines))
		}
		long = append(long, []impl.ActLine{{Kind: mark}})
		acts = long[:many]
		for range 2 {
			parts := impl.CatForms(acts)
			if !sameParts(parts, partsByHand([][]impl.ActLine{lines})) {
				t.Fatalf("CatForms is %v", parts)
			}
			checkNumbersApart(t, "CatForms", parts)
			pins, reads, writes := impl.CatPins(acts), impl.CatReads(acts[0]), impl.CatWrites(acts[0])
			if !slices.Equal(pins, []bool{false, true, true}) || !slices.Equal(reads, pins) || !slices.Equal(writes, []bool{true, false, true}) {
				t.Fatalf("CatPins is %v, CatReads %v, CatWrites %v", pins, reads, writes)
			}
			for i, list := range [][]bool{pins, reads, writes} {
				for place := range list {
					list[place] = i == 1
				}
			}
		}
		impl.CatOk(acts)
		for _, act := range acts {
			checkActAsItWas(t, act, lines)
		}
		if !sameLine(long[many][0], impl.ActLine{Kind: mark}) {
			t.Errorf("behind the end stands %v", long[many])
		}
	}
}
