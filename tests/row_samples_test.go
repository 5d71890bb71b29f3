package tests

import (
	"slices"
	"testing"

	"loop.example/concord/impl"
)

// actOf reads an act's lines.
func actOf(t *testing.T, texts ...string) []impl.ActLine {
	t.Helper()
	var act []impl.ActLine
	for _, s := range texts {
		l, ok := impl.ActRead(s)
		if !ok {
			t.Fatalf("ActRead(%q) is false", s)
		}
		act = append(act, l)
	}
	return act
}

func sameForms(a, b []impl.FrmForm) bool {
	return slices.EqualFunc(a, b, sameForm)
}

func sameRow(a, b impl.RowRow) bool {
	return sameForms(a.Guards, b.Guards) && sameForms(a.Adds, b.Adds) && sameForms(a.Tells, b.Tells) && a.Stop == b.Stop
}

func textsOf(forms []impl.FrmForm) []string {
	var texts []string
	for _, f := range forms {
		texts = append(texts, impl.FrmText(f))
	}
	return texts
}

func testsOf(act []impl.ActLine) int {
	tests := 0
	for _, l := range act {
		if l.Kind == impl.ActTest {
			tests++
		}
	}
	return tests
}

// waysByHand goes through an act once for each row of yes and no to its tests, yes first, and leaves out rows that say no to a test that they do not meet.
func waysByHand(act []impl.ActLine) []impl.RowRow {
	var rows []impl.RowRow
	for answers := range 1 << impl.ActMaxTest {
		row, met := wayByHand(act, answers)
		if unasked := answers & (1<<(impl.ActMaxTest-met) - 1); unasked == 0 {
			rows = append(rows, row)
		}
	}
	return rows
}

// wayByHand takes the answer to the first test from the highest bit: 0 is yes. It says how many tests it has met.
func wayByHand(act []impl.ActLine, answers int) (impl.RowRow, int) {
	pots := [][]int{{1, 0, 0, 0, 0, 0}, {0, 1, 0, 0, 0, 0}, {0, 0, 1, 0, 0, 0}}
	var row impl.RowRow
	met, left := 0, 0
	for _, l := range act {
		if left > 0 {
			left--
			continue
		}
		if l.Kind == impl.ActStop {
			return impl.RowRow{Guards: row.Guards, Stop: true}, met
		}
		f := putInto(numbersOf(l.Form), pots)
		switch l.Kind {
		case impl.ActTest:
			met++
			if answers>>(impl.ActMaxTest-met)&1 == 1 {
				left = l.Skip
				for i, n := range f {
					f[i] = -n
				}
				f[5]--
			}
			row.Guards = append(row.Guards, formOf(f))
		case impl.ActAdd:
			for i, n := range f {
				pots[l.Pot][i] += n
			}
		case impl.ActPrint:
			row.Tells = append(row.Tells, formOf(f))
		}
	}
	for v, p := range pots {
		p[v]--
		row.Adds = append(row.Adds, formOf(p))
	}
	return row, met
}

func putInto(f []int, pots [][]int) []int {
	sum := []int{0, 0, 0, f[3], f[4], f[5]}
	for v, p := range pots {
		for i, n := range p {
			sum[i] += f[v] * n
		}
	}
	return sum
}

// growingActs have the greatest numbers that a way can have: each line takes as much as may be of what the ones ahead of it have made.
func growingActs() [][]impl.ActLine {
	var list [][]impl.ActLine
	for _, sign := range []int{1, -1} {
		most := form(2*sign, 2*sign, 2*sign, 2*sign, 2*sign, 20*sign)
		other := form(-2*sign, -2*sign, -2*sign, -2*sign, -2*sign, -20*sign)
		for pots := range 729 {
			var act []impl.ActLine
			for rest, i := pots, 0; i < impl.ActMax; rest, i = rest/3, i+1 {
				act = append(act, adding(rest%3, most))
			}
			tested := append(slices.Clone(act[:impl.ActMax-1]), asking(1, most))
			list = append(list, act, tested, append(slices.Clone(act[:impl.ActMax-1]), asking(6, other)),
				append(slices.Clone(act[:impl.ActMax-1]), telling(most)))
		}
	}
	return list
}

func greatest(forms []impl.FrmForm) int {
	most := 0
	for _, f := range forms {
		for _, n := range numbersOf(f) {
			most = max(most, n, -n)
		}
	}
	return most
}

// okRows are ways of acts, and rows that no act has: of numbers at FrmMax's ends, without guards, with many guards and tells.
func okRows() []impl.RowRow {
	zeros := []impl.FrmForm{number(0), number(0), number(0)}
	list := []impl.RowRow{
		{Stop: true},
		{Adds: zeros},
		{Guards: []impl.FrmForm{number(0)}, Adds: zeros},
		{Guards: []impl.FrmForm{number(-1)}, Adds: zeros},
		{Guards: []impl.FrmForm{number(-1)}, Stop: true},
		{Guards: []impl.FrmForm{pot(0), pot(1), pot(2), form(0, 0, 0, 1, 0, 0), form(0, 0, 0, 0, 1, 0)}, Adds: zeros},
		{Guards: []impl.FrmForm{number(0), number(0), form(0, 0, 0, 0, 1, -2)}, Stop: true},
		{Adds: []impl.FrmForm{number(1), pot(0), form(0, 0, -1, 1, 1, 0)}, Tells: []impl.FrmForm{pot(2), pot(0), number(3)}},
		{Adds: []impl.FrmForm{pot(1), pot(2), pot(0)}, Tells: slices.Repeat([]impl.FrmForm{pot(1)}, impl.ActMax+3)},
		{Guards: []impl.FrmForm{}, Adds: []impl.FrmForm{}, Tells: []impl.FrmForm{}, Stop: true},
	}
	forms := okForms()
	for i := range forms {
		one, two, three := forms[i], forms[(i+7)%len(forms)], forms[(i+11)%len(forms)]
		list = append(list, impl.RowRow{Guards: []impl.FrmForm{one, two}, Adds: []impl.FrmForm{one, two, three}, Tells: []impl.FrmForm{three, two, one}},
			impl.RowRow{Guards: []impl.FrmForm{one}, Adds: zeros, Tells: []impl.FrmForm{two}}, impl.RowRow{Guards: []impl.FrmForm{two}, Stop: true})
	}
	for _, act := range okActs()[:200] {
		list = append(list, waysByHand(act)...)
	}
	return list
}

func wrongRows() []impl.RowRow {
	fine := number(1)
	three := []impl.FrmForm{fine, fine, fine}
	list := []impl.RowRow{
		{},
		{Guards: three, Tells: three},
		{Adds: three[:1]},
		{Adds: three[:2], Tells: three},
		{Adds: slices.Repeat(three[:1], 4)},
		{Adds: slices.Repeat(three[:1], 100)},
		{Adds: three, Stop: true},
		{Adds: three[:1], Stop: true},
		{Tells: three[:1], Stop: true},
		{Adds: three, Tells: three, Stop: true},
		{Guards: three, Tells: three[:1], Stop: true},
	}
	for _, wrong := range wrongForms() {
		for place := range 3 {
			one := slices.Clone(three)
			one[place] = wrong
			list = append(list, impl.RowRow{Guards: one, Adds: three}, impl.RowRow{Adds: one}, impl.RowRow{Adds: three, Tells: one},
				impl.RowRow{Guards: one, Stop: true})
		}
	}
	return list
}
