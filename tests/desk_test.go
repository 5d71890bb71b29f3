package tests

import (
	"fmt"
	"slices"
	"strings"
	"testing"

	"loop.example/concord/impl"
)

func TestP78BoardOfAWorld(t *testing.T) {
	want := []string{"client 1 call 1 stopped", "client 0 call 1 done 3", "client 0 call 2 done 3", "pots 24 2 2", "rounds 4 4 4"}
	if lines := impl.DskBoard(stir()); !slices.Equal(lines, want) {
		t.Errorf("DskBoard is %q", lines)
	}
	for _, c := range []struct {
		w    impl.WldWorld
		want []string
	}{
		{impl.WldNew(takers()), []string{"pots 30 0 0", "rounds 0 0 0"}},
		{impl.WldNew(plan(1, 1, 5)), []string{"pots 30 0 -7", "rounds 0 0"}},
		{impl.WldNew(plan(4, 4, 5, 6, 7)), []string{"pots 30 0 -7", "rounds 0 0 0 0"}},
		{spread(7, 6, 200), []string{"pots 31 0 0", "rounds 7 7 6 200"}},
		{spread(0), []string{"pots 30 0 0", "rounds 7 0"}},
	} {
		if lines := impl.DskBoard(c.w); !slices.Equal(lines, c.want) {
			t.Errorf("DskBoard of %v is %q, not %q", c.w, lines, c.want)
		}
	}
}

func TestP78ALineForEachOfLogAndTwo(t *testing.T) {
	t.Parallel()
	sizes := map[int]int{}
	worlds := append(looseWorlds(303, 60), strolledWorlds(304, 20, 300, 50)...)
	for _, many := range []int{0, 1, 2, impl.WldMaxLog - 1, impl.WldMaxLog} {
		worlds = append(worlds, withLog(stir(), many))
	}
	for _, r := range okResults() {
		worlds = append(worlds, turnedWorld(stir(), func(w *impl.WldWorld) { w.Log[1] = impl.LogDone{Call: call(2, 300, 3, 9, -9), Res: r} }))
	}
	for _, w := range worlds {
		lines := impl.DskBoard(w)
		if len(lines) != len(w.Log)+2 || !slices.Equal(lines, boardByHand(w)) {
			t.Fatalf("DskBoard of %v is %q", w, lines)
		}
		sizes[len(w.Log)]++
	}
	if sizes[0] == 0 || sizes[1] == 0 || sizes[impl.WldMaxLog] == 0 {
		t.Errorf("too few of one kind: %v", sizes)
	}
}

func TestP78NoBoardOfWhatIsNotOk(t *testing.T) {
	worlds := wrongWorlds()
	for _, p := range wrongPlans() {
		worlds = append(worlds, fittingWorld(p))
	}
	for _, w := range worlds {
		if lines := impl.DskBoard(w); len(lines) > 0 {
			t.Errorf("DskBoard of %v is %q", w, lines)
		}
	}
}

func checkRunOf(t *testing.T, plan, lines, want []string) {
	t.Helper()
	if out := impl.DskRun(plan, lines); !slices.Equal(out, want) {
		t.Errorf("DskRun of %q is %q, not %q", lines, out, want)
	}
}

func TestP79TheExample(t *testing.T) {
	want := []string{"client 0 call 1 done 8", "client 1 call 1 done 9", "client 0 call 2 done 9", "pots 4 0 0", "rounds 1 1 1"}
	checkRunOf(t, example(), exampleLines(), want)
	checkRunOf(t, example(), exampleLines()[:20], want)
	checkRunOf(t, example(), exampleLines()[:17], []string{"client 0 call 1 done 8", "client 1 call 1 done 9", "pots 13 0 0", "rounds 0 0 0"})
	checkRunOf(t, example(), exampleLines()[:2], []string{"client 0 call 1 done 8", "pots 22 0 0", "rounds 0 0 0"})
	checkRunOf(t, example(), nil, []string{"pots 30 0 0", "rounds 0 0 0"})
	checkRunOf(t, example(), []string{}, []string{"pots 30 0 0", "rounds 0 0 0"})
}

// Each word turns what it should: without any of these lines something else would come.
func TestP79RunsByLinesOfEveryKind(t *testing.T) {
	plan := []string{"clients 4", "gives 9 9 9", "start 20 0 0", "act", "test 1 1x0 0", "stop", "act", "add 0 1a0 0", "act", "print 1x1 0", "add 1 1a0 -1a1 0"}
	for _, c := range []struct {
		lines string
		want  string
	}{
		{"call 0 0 0 0,try 0", "client 0 call 1 stopped,pots 20 0 0,rounds 0 0 0 0"},
		{"call 3 1 -9 0,try 3,call 3 1 9 0,deaf 3", "client 3 call 1 done,client 3 call 2 done,pots 20 0 0,rounds 0 0 0 0"},
		{"call 3 1 9 0,deaf 3,call 3 1 -9 0,try 3,call 3 1 -8 0,try 3", "client 3 call 1 done,client 3 call 2 done,pots 21 0 0,rounds 0 0 0 0"},
		{"call 1 1 5 0,fall 1,try 1", "pots 20 0 0,rounds 0 0 0 0"},
		{"call 1 1 5 0,fall 1,rise 1,try 1", "client 1 call 1 done,pots 25 0 0,rounds 0 0 0 0"},
		{"call 1 1 5 0,fall 0,try 1", "client 1 call 1 done,pots 25 0 0,rounds 0 0 0 0"},
		{"call 1 2 5 7,try 1,bring 0,tick,bring 3,bring 3,bring 3,bring 3,bring 3,bring 3", "client 1 call 1 done 0,pots 20 -2 0,rounds 1 0 0 0"},
		{"call 1 2 5 7,try 1,lose 0,tick,bring 3,bring 3,bring 3,bring 3,bring 3,bring 3", "pots 20 0 0,rounds 0 0 0 0"},
		{"call 1 2 5 7,try 1,twice 0,lose 0,bring 0,tick,bring 3,bring 3,bring 3,bring 3,bring 3,bring 3,bring 5", "client 1 call 1 done 0,pots 20 -2 0,rounds 1 0 0 1"},
		{"call 1 2 5 7,try 1,clerkfalls,bring 0,clerkrises,tick,bring 3,bring 3,bring 3,bring 3,bring 3,bring 3", "pots 20 0 0,rounds 0 0 0 0"},
		{"call 1 2 5 7,try 1,bring 0,clerkrises,tick,bring 3,bring 3,bring 3,bring 3,bring 3,bring 3", "client 1 call 1 done 0,pots 20 -2 0,rounds 1 0 0 0"},
		{"call 1 2 5 7,try 1,bring 0,tick,clerkfalls,bring 3,bring 3,bring 3,bring 3,bring 3,bring 3", "pots 20 0 0,rounds 0 0 0 0"},
	} {
		checkRunOf(t, plan, strings.Split(c.lines, ","), strings.Split(c.want, ","))
	}
}

// These lines are ones, and nothing turns by them.
func TestP79LinesThatDoNotFit(t *testing.T) {
	lines := []string{
		"try 0", "try 9", "deaf 0", "deaf 999999999999", "bring 0", "bring 999999999999", "lose 0", "twice 0", "fall 2", "rise 2", "rise 0", "fall 999999999999",
		"call 2 0 0 0", "call 0 3 0 0", "call 0 0 10 0", "call 0 0 0 -10", "call 999999999999 0 0 0", "call 0 999999999999 0 0", "call 0 0 999999999999 -999999999999", "clerkrises",
	}
	checkRunOf(t, example(), lines, []string{"pots 30 0 0", "rounds 0 0 0"})
}

func eventsOf(t *testing.T, lines []string) []impl.WldEvent {
	t.Helper()
	var events []impl.WldEvent
	for _, line := range lines {
		e, ok := impl.DskEvent(line)
		if !ok {
			t.Fatalf("DskEvent(%q) is false", line)
		}
		events = append(events, e)
	}
	return events
}

func TestP79BoardOfTheWorldBehindTheLines(t *testing.T) {
	t.Parallel()
	words, done := map[string]int{}, 0
	linedStrolls(305, 20, impl.DskMaxLines, func(plan, lines []string, last impl.WldWorld) {
		p, wrong := impl.PlnParse(plan)
		if wrong != 0 {
			t.Fatalf("PlnParse of %q is %d", plan, wrong)
		}
		for _, many := range []int{0, 1, 7, 60, len(lines)} {
			want := impl.DskBoard(impl.WldRun(impl.WldNew(p), eventsOf(t, lines[:many])))
			checkRunOf(t, plan, lines[:many], want)
		}
		checkRunOf(t, plan, lines, boardByHand(last))
		for _, line := range lines {
			words[strings.Fields(line)[0]]++
		}
		done += len(last.Log)
	})
	if len(words) != len(wordsOfEvents()) || done < 250 {
		t.Errorf("too few of one kind: %v, %d", words, done)
	}
}

func TestRunsTellWhichLinesAreNone(t *testing.T) {
	checkRunOf(t, example(), []string{"", "tick ", "call 0 0 8 0", "tri 0", "try 0", "try -1"}, []string{"line 1", "line 2", "line 4", "line 6", "client 0 call 1 done 8", "pots 22 0 0", "rounds 0 0 0"})
	for _, none := range append(notLines(), strings.Repeat("a", 120), strings.Repeat(" ", 121), "tick"+strings.Repeat(" 0", 100)) {
		checkRunOf(t, example(), []string{none}, []string{"line 1", "pots 30 0 0", "rounds 0 0 0"})
		checkRunOf(t, example(), []string{"call 1 0 9 0", none, "try 1", none}, []string{"line 2", "line 4", "client 1 call 1 done 9", "pots 21 0 0", "rounds 0 0 0"})
	}
	nones := slices.Repeat([]string{"none"}, impl.DskMaxLines)
	want := []string{}
	for n := 1; n <= impl.DskMaxLines; n++ {
		want = append(want, fmt.Sprint("line ", n))
	}
	checkRunOf(t, example(), nones, append(want, "pots 30 0 0", "rounds 0 0 0"))
}

// A line that is none turns nothing: the board is that of the other lines.
func TestLinesThatAreNoneTurnNothing(t *testing.T) {
	t.Parallel()
	turn := &turning{state: 306}
	none := notLines()
	linedStrolls(307, 20, 150, func(plan, lines []string, last impl.WldWorld) {
		var mixed, told []string
		for _, line := range lines {
			for turn.next(9) > 4 && len(lines)+len(told) < impl.DskMaxLines {
				mixed = append(mixed, none[(turn.next(999)+999)%len(none)])
				told = append(told, fmt.Sprint("line ", len(mixed)))
			}
			mixed = append(mixed, line)
		}
		checkRunOf(t, plan, mixed, runByHand(plan, mixed))
		checkRunOf(t, plan, mixed, append(told, impl.DskRun(plan, lines)...))
	})
}

func TestLongRuns(t *testing.T) {
	ticks := func(many int) []string { return slices.Repeat([]string{"tick"}, many) }
	for _, many := range []int{1, impl.DskMaxLines - 1, impl.DskMaxLines} {
		checkRunOf(t, example(), ticks(many), []string{"pots 30 0 0", "rounds 0 0 0"})
	}
	for _, many := range []int{impl.DskMaxLines + 1, impl.DskMaxLines + 2, 400, 401, 5000} {
		checkRunOf(t, example(), ticks(many), []string{"long"})
		checkRunOf(t, example(), make([]string, many), []string{"long"})
		checkRunOf(t, example(), append(exampleLines(), ticks(many)...), []string{"long"})
		checkRunOf(t, nil, ticks(many), []string{"plan 1"})
		checkRunOf(t, append(example(), "none"), ticks(many), []string{fmt.Sprint("plan ", len(example())+1)})
		checkRunOf(t, slices.Repeat([]string{"act"}, many), ticks(many), []string{"plan 201"})
	}
	last := append(ticks(impl.DskMaxLines-2), "call 0 0 8 0", "try 0")
	checkRunOf(t, example(), last, []string{"client 0 call 1 done 8", "pots 22 0 0", "rounds 0 0 0"})
}

// logLines are those of a board's Log.
func logLines(t *testing.T, out []string) []string {
	t.Helper()
	if len(out) < 2 || !strings.HasPrefix(out[len(out)-2], "pots ") || !strings.HasPrefix(out[len(out)-1], "rounds ") {
		t.Fatalf("there is no board: %q", out)
	}
	return out[:len(out)-2]
}

func TestP80LogBehindTheFirstLines(t *testing.T) {
	t.Parallel()
	grown := 0
	linedStrolls(308, 20, impl.DskMaxLines, func(plan, lines []string, last impl.WldWorld) {
		all := logLines(t, impl.DskRun(plan, lines))
		if len(all) != len(last.Log) {
			t.Fatalf("Log of %q is %q", lines, all)
		}
		for many := 0; many <= len(lines); many += 17 {
			first := logLines(t, impl.DskRun(plan, lines[:many]))
			if len(first) > len(all) || !slices.Equal(first, all[:len(first)]) {
				t.Fatalf("Log behind %d lines is %q, and behind all %q", many, first, all)
			}
			if len(first) > 0 && len(first) < len(all) {
				grown++
			}
		}
	})
	for many := range len(exampleLines()) + 1 {
		first, all := logLines(t, impl.DskRun(example(), exampleLines()[:many])), logLines(t, impl.DskRun(example(), exampleLines()))
		if !slices.Equal(first, all[:len(first)]) {
			t.Errorf("Log behind %d lines is %q", many, first)
		}
	}
	if grown < 50 {
		t.Errorf("only %d were longer", grown)
	}
}

// Log with as many calls as there may be.
func TestP80LogThatIsFull(t *testing.T) {
	plan := []string{"clients 1", "gives 50", "start 0 0 0", "act"}
	lines := slices.Repeat([]string{"call 0 0 0 0", "try 0"}, impl.DskMaxLines/2)
	all := impl.DskRun(plan, lines)
	if len(all) != impl.WldMaxLog+2 || all[99] != "client 0 call 100 done" {
		t.Fatalf("it is %q", all)
	}
	for many := range len(lines) {
		first := logLines(t, impl.DskRun(plan, lines[:many]))
		if len(first) != many/2 || !slices.Equal(first, all[:many/2]) {
			t.Fatalf("Log behind %d lines is %q", many, first)
		}
	}
}
