package tests

import (
	"fmt"
	"slices"
	"strings"
	"testing"

	"loop.example/concord/impl"
)

func TestP75TheExamplesPlan(t *testing.T) {
	arg, minusArg := form(0, 0, 0, 1, 0, 0), form(0, 0, 0, -1, 0, 0)
	want := impl.PlnPlan{
		Clients: 2,
		Acts: [][]impl.ActLine{
			{asking(2, form(1, 0, 0, -1, 0, 0)), adding(0, minusArg), telling(arg)},
			{adding(0, arg)},
			{telling(pot(2)), asking(1, form(1, 0, 0, 0, 0, -20)), adding(2, number(1))},
		},
		Gives: []int{10, 10},
		Start: []int{30, 0, 0},
	}
	if p, wrong := impl.PlnParse(example()); wrong != 0 || !samePlan(p, want) {
		t.Errorf("PlnParse is %v and %d", p, wrong)
	}
	if lines := impl.PlnPrint(want); !slices.Equal(lines, example()) {
		t.Errorf("PlnPrint is %q", lines)
	}
}

func TestP75PlansAtTheEnds(t *testing.T) {
	for _, c := range []struct {
		lines []string
		want  impl.PlnPlan
	}{
		{[]string{"clients 1", "gives 0", "start 0 0 0", "act"},
			impl.PlnPlan{Clients: 1, Acts: [][]impl.ActLine{nil}, Gives: []int{0}, Start: []int{0, 0, 0}}},
		{[]string{"clients 4", "gives 50 0 50", "start -1000 1000 -7", "act", "act", "stop", "act", "act"},
			impl.PlnPlan{Clients: 4, Acts: [][]impl.ActLine{nil, {stopping()}, nil, nil}, Gives: []int{50, 0, 50}, Start: []int{-1000, 1000, -7}}},
		{[]string{"clients 3", "gives 10 6", "start 30 0 0", "act", "test 2 1x0 -1a0 0", "add 0 -1a0 0", "print 1a0 0", "act", "add 0 1a0 0", "act", "print 1x2 0", "add 2 1", "act", "stop"},
			takers()},
	} {
		if p, wrong := impl.PlnParse(c.lines); wrong != 0 || !samePlan(p, c.want) {
			t.Errorf("PlnParse of %q is %v and %d", c.lines, p, wrong)
		}
		if lines := impl.PlnPrint(c.want); !slices.Equal(lines, c.lines) {
			t.Errorf("PlnPrint of %v is %q", c.want, lines)
		}
	}
}

func TestP75ParseOfPrintIsThePlan(t *testing.T) {
	sizes := map[int]int{}
	for _, p := range linedPlans() {
		lines := impl.PlnPrint(p)
		if !slices.Equal(lines, printByHand(p)) {
			t.Fatalf("PlnPrint of %v is %q", p, lines)
		}
		if got, wrong := impl.PlnParse(lines); wrong != 0 || !samePlan(got, p) {
			t.Fatalf("PlnParse of %q is %v and %d, not %v", lines, got, wrong, p)
		}
		sizes[len(lines)]++
	}
	if sizes[4] == 0 || sizes[3+impl.CatMax*(1+impl.ActMax)] == 0 {
		t.Errorf("the least or the most is missing: %v", sizes)
	}
}

func TestP75NoLinesOfWhatIsNotOk(t *testing.T) {
	for _, p := range wrongPlans() {
		if lines := impl.PlnPrint(p); len(lines) > 0 {
			t.Errorf("PlnPrint of %v is %q", p, lines)
		}
	}
}

// What is read of lines with one byte turned, put in or taken out is a plan with just those lines, or none.
func TestP75PrintOfWhatIsReadIsTheLines(t *testing.T) {
	t.Parallel()
	read := 0
	lines := []string{"clients 3", "gives 10 6", "start 30 -5 0", "act", "test 2 1x0 -1a0 0", "stop", "act", "act", "print 1x2 10"}
	for at, line := range lines {
		for _, near := range nearLines(line) {
			turned := slices.Clone(lines)
			turned[at] = near
			p, wrong := impl.PlnParse(turned)
			checkParse(t, turned, p, wrong)
			if wrong == 0 {
				read++
				if !slices.Equal(impl.PlnPrint(p), turned) {
					t.Fatalf("PlnParse of %q is %v, with the lines %q", turned, p, impl.PlnPrint(p))
				}
			}
		}
	}
	if read < 200 {
		t.Errorf("only %d were plans", read)
	}
}

func checkParse(t *testing.T, lines []string, p impl.PlnPlan, wrong int) {
	t.Helper()
	if want, told := parseByHand(lines); wrong != told || !samePlan(p, want) {
		t.Fatalf("PlnParse of %q is %v and %d, not %v and %d", lines, p, wrong, want, told)
	}
}

// checkTold asks for nothing and a line, and lets DskRun tell it, too.
func checkTold(t *testing.T, lines []string, want int) {
	t.Helper()
	if p, wrong := impl.PlnParse(lines); wrong != want || !samePlan(p, impl.PlnPlan{}) {
		t.Errorf("PlnParse of %q is %v and %d, not %d", lines, p, wrong, want)
	}
	if out := impl.DskRun(lines, []string{"tick", "none"}); !slices.Equal(out, []string{fmt.Sprint("plan ", want)}) {
		t.Errorf("DskRun of the plan %q is %q, not plan %d", lines, out, want)
	}
}

func TestP76TheFirstLines(t *testing.T) {
	for _, c := range []struct {
		lines string
		want  int
	}{
		{"gives 5,clients 1,start 0 0 0,act", 1},
		{"start 0 0 0,gives 5,clients 1,act", 1},
		{"clients 1,start 0 0 0,gives 5,act", 2},
		{"gives 5,start 0 0 0,act", 1},
		{"clients 1,start 0 0 0,act", 2},
		{"clients 1,gives 5,act", 3},
		{"act,clients 1,gives 5,start 0 0 0", 1},
		{"clients 1,act,gives 5,start 0 0 0", 2},
		{"clients 1,gives 5,act,start 0 0 0", 3},
		{"clients 1,clients 1,gives 5,start 0 0 0,act", 2},
		{"clients 1,gives 5,gives 5,start 0 0 0,act", 3},
		{"clients 1,gives 5,clients 1,start 0 0 0,act", 3},
		{"clients 1,gives 5,start 0 0 0,start 0 0 0,act", 4},
		{"clients 1,gives 5,start 0 0 0,clients 1,act", 4},
		{"clients 1,gives 5,start 0 0 0,gives 5,act", 4},
		{"clients 1,gives 5,start 0 0 0,act,clients 1", 5},
		{"clients 1,gives 5,start 0 0 0,act,gives 5", 5},
		{"clients 1,gives 5,start 0 0 0,act,start 0 0 0", 5},
		{"clients 1,gives 5,start 0 0 0,act,stop,act,clients 1,act", 7},
		{"clients,gives 5,start 0 0 0,act", 1},
		{"clients 1 1,gives 5,start 0 0 0,act", 1},
		{"clients 1,gives,start 0 0 0,act", 2},
		{"clients 1,gives 5,start,act", 3},
		{"clients x,gives 5,start 0 0 0,act", 1},
		{"clients 1,gives 5 x,start 0 0 0,act", 2},
		{"clients 1,gives 5,start 0 0 1x0,act", 3},
		{"Clients 1,gives 5,start 0 0 0,act", 1},
		{"client 1,gives 5,start 0 0 0,act", 1},
		{"clients 1,give 5,start 0 0 0,act", 2},
		{"clients 1,gives 5,starts 0 0 0,act", 3},
		{"", 1},
		{"clients 1,,start 0 0 0,act", 2},
	} {
		checkTold(t, strings.Split(c.lines, ","), c.want)
	}
}

func TestP76LinesOfActs(t *testing.T) {
	head := []string{"clients 1", "gives 5", "start 0 0 0"}
	for _, line := range []string{"test 1 0", "add 0 1", "print 1x0 0", "stop"} {
		checkTold(t, append(slices.Clone(head), line, "act"), 4)
		checkTold(t, append(slices.Clone(head), line), 4)
		for at := range head {
			checkTold(t, slices.Insert(append(slices.Clone(head), "act"), at, line), at+1)
		}
		if p, wrong := impl.PlnParse(append(slices.Clone(head), "act", line)); wrong != 0 || len(p.Acts) != 1 || len(p.Acts[0]) != 1 {
			t.Errorf("behind an act %q is told as %d", line, wrong)
		}
		for _, more := range []string{line + " 0", line + " 1 2 3 4 5 6", line + " ", " " + line, strings.Replace(line, " ", "  ", 1) + " ", strings.ToUpper(line)} {
			checkTold(t, append(slices.Clone(head), "act", more), 5)
		}
	}
	for _, line := range []string{
		"act 0", "act ", " act", "Act", "acts", "test", "test 1", "test 0 0", "test 7 0", "test 1 -0", "add", "add 0", "add 3 0", "add -1 0", "add 0 3x0 0", "print", "print 21", "print 1x3 0", "print 00", "halt",
	} {
		checkTold(t, append(slices.Clone(head), "act", line), 5)
		checkTold(t, append(slices.Clone(head), "act", "stop", "act", line, "stop"), 7)
	}
}

// None of these lines is wrong, but the plan is not ok.
func TestP76BehindTheLastLine(t *testing.T) {
	for _, lines := range []string{
		"clients 1", "clients 1,gives 5", "clients 1,gives 5,start 0 0 0",
		"clients 0,gives 5,start 0 0 0,act", "clients -1,gives 5,start 0 0 0,act", "clients 5,gives 5,start 0 0 0,act", "clients 999999999999,gives 5,start 0 0 0,act", "clients -999999999999,gives 5,start 0 0 0,act",
		"clients 1,gives -1,start 0 0 0,act", "clients 1,gives 51,start 0 0 0,act", "clients 1,gives 5 5 5 5,start 0 0 0,act", "clients 1,gives 5 -999999999999,start 0 0 0,act",
		"clients 1,gives 5,start 0,act", "clients 1,gives 5,start 0 0,act", "clients 1,gives 5,start 0 0 0 0,act", "clients 1,gives 5,start 1001 0 0,act", "clients 1,gives 5,start 0 0 -1001,act", "clients 1,gives 5,start 0 0 999999999999,act",
		"clients 1,gives 5,start 0 0 0,act,act,act,act,act", "clients 1,gives 5,start 0 0 0,act,stop,stop,stop,stop,stop,stop,stop", "clients 1,gives 5,start 0 0 0,act,test 1 0,test 1 0,test 1 0,test 1 0",
		"clients 1,gives 5 1 1 1 1 1 1,start 0 0 0,act", "clients 1,gives 5,start 0 0 0 1 1 1 1 1 1,act",
	} {
		list := strings.Split(lines, ",")
		checkTold(t, list, len(list)+1)
	}
	checkTold(t, nil, 1)
	checkTold(t, []string{}, 1)
}

func TestP76NumbersOfLines(t *testing.T) {
	fine := []string{"clients 1", "gives 0 0", "start 0 -1000 1000", "act"}
	with := func(at int, line string) []string {
		lines := slices.Clone(fine)
		lines[at] = line
		return lines
	}
	if _, wrong := impl.PlnParse(fine); wrong != 0 {
		t.Fatalf("the line %d is told", wrong)
	}
	for at, word := range []string{"clients", "gives", "start"} {
		for _, number := range []string{
			"1000000000000", "-1000000000000", "9999999999999", "-9999999999999", "000000000001", "0000000000001", "18446744073709551617", "99999999999999999999", "00", "01", "-0", "-00", "-01", "+1", "--1", "1-", "-", "", "1.0", "0x1", "1_0", "1e1", "a", "\u0661", "1\n", "\t1", "1\x00",
		} {
			checkTold(t, with(at, word+" "+number), at+1)
		}
		for _, number := range []string{"999999999999", "-999999999999", "100000000000", "-100000000000"} {
			checkTold(t, with(at, word+" "+number), 5)
		}
		for _, line := range []string{word, word + " ", " " + word + " 1", word + "  1", word + " 1 ", word + " 1\n", word + "\t1", word + "1", word + ",1"} {
			checkTold(t, with(at, line), at+1)
		}
	}
	for _, line := range []string{"gives 0  0", "gives 0 0 ", " gives 0 0", "gives 0 00", "gives 0 1000000000000", "gives -0 0"} {
		checkTold(t, with(1, line), 2)
	}
	for _, line := range []string{"start 0  0 0", "start 0 0 0 ", "start 0 0 -0", "start 0 1000000000000 0", "start 01 0 0"} {
		checkTold(t, with(2, line), 3)
	}
}

// A line of 120 bytes is none too many; it has so many numbers that the plan is not ok, but it is not wrong.
func TestP76LongLines(t *testing.T) {
	for at, word := range []string{"gives", "start"} {
		for _, size := range []int{118, 119, 120, 121, 122, 1000, 100000} {
			line := word + strings.Repeat(" 1", (size-len(word))/2)
			if len(line) < size {
				line += "0"
			}
			want := 5
			if len(line) != size {
				t.Fatalf("the line has %d bytes", len(line))
			}
			if size > 120 {
				want = at + 2
			}
			lines := []string{"clients 1", "gives 5", "start 0 0 0", "act"}
			lines[at+1] = line
			checkTold(t, lines, want)
		}
	}
	for _, size := range []int{119, 120, 121, 100000} {
		for _, text := range []string{" ", "0", "a", "\x00"} {
			long := strings.Repeat(text, size)
			checkTold(t, []string{long}, 1)
			checkTold(t, []string{"clients 1" + long}, 1)
			checkTold(t, []string{"clients 1", "gives 5", "start 0 0 0", "act" + long}, 4)
			checkTold(t, []string{"clients 1", "gives 5", "start 0 0 0", "act", "stop" + long}, 5)
		}
	}
}

func TestP76ManyLines(t *testing.T) {
	lines := func(many int) []string {
		list := []string{"clients 1", "gives 5", "start 0 0 0", "act"}
		for len(list) < many {
			list = append(list, "stop")
		}
		return list
	}
	for _, many := range []int{11, 50, impl.DskMaxLines - 1, impl.DskMaxLines} {
		checkTold(t, lines(many), many+1)
		for _, at := range []int{4, 9, many - 1} {
			wrong := lines(many)
			wrong[at] = "none"
			checkTold(t, wrong, at+1)
		}
	}
	for _, many := range []int{impl.DskMaxLines + 1, impl.DskMaxLines + 2, 5000} {
		checkTold(t, lines(many), impl.DskMaxLines+1)
		checkTold(t, make([]string, many), impl.DskMaxLines+1)
		for _, at := range []int{0, 4, many - 1} {
			wrong := lines(many)
			wrong[at] = "none"
			checkTold(t, wrong, impl.DskMaxLines+1)
		}
	}
	checkTold(t, slices.Repeat([]string{"act"}, impl.DskMaxLines), 1)
}

// Of several lines that are wrong the first is told, whatever stands behind it.
func TestP76TheFirstOfSeveral(t *testing.T) {
	lines := example()
	for at := range lines {
		for _, none := range append(notLines(), "clients", "gives", "start", "stop 0", strings.Repeat("a", 121)) {
			one := slices.Clone(lines)
			one[at] = none
			checkTold(t, one, at+1)
			for behind := at + 1; behind < len(lines); behind++ {
				two := slices.Clone(one)
				two[behind] = "none"
				checkTold(t, two, at+1)
			}
		}
		checkTold(t, slices.Insert(slices.Clone(lines), at, ""), at+1)
	}
	checkTold(t, append(slices.Clone(lines), ""), len(lines)+1)
}

// atWill are lines of plans, of which most are right, in their order.
func (t *turning) atWill() []string {
	pool := []string{"act", "stop", "test 1 1x0 0", "add 1 1a1 3", "print 1x2 0", "clients 2", "gives 3", "start 1 2 3", "stop 1", "tick", ""}
	some := func(many int) string { return pool[(t.next(999)+999)%many] }
	lines := []string{"clients 2", "gives 3 4", "start 1 2 3", "act"}
	if t.next(9) > 6 {
		lines[max(0, t.next(3))] = some(len(pool))
	}
	for range (t.next(20) + 20) % 12 {
		lines = append(lines, some(5+max(0, t.next(6))))
	}
	return lines
}

func TestP76PlansAtWill(t *testing.T) {
	t.Parallel()
	turn := &turning{state: 301}
	told := map[int]int{}
	for range 20000 {
		lines := turn.atWill()
		p, wrong := impl.PlnParse(lines)
		checkParse(t, lines, p, wrong)
		told[wrong]++
	}
	for wrong := range 16 {
		if told[wrong] < 30 {
			t.Errorf("too few of one kind: %v", told)
		}
	}
}
