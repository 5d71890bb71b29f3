package tests

import (
	"fmt"
	"regexp"
	"slices"
	"strconv"
	"strings"

	"loop.example/concord/impl"
)

// example is the plan of the document's example.
func example() []string {
	return []string{
		"clients 2", "gives 10 10", "start 30 0 0",
		"act", "test 2 1x0 -1a0 0", "add 0 -1a0 0", "print 1a0 0",
		"act", "add 0 1a0 0",
		"act", "print 1x2 0", "test 1 1x0 -20", "add 2 1",
	}
}

// exampleLines are what happens in the document's example.
func exampleLines() []string {
	return []string{
		"call 0 0 8 0", "try 0", "call 1 0 9 0", "deaf 1", "try 1", "call 0 0 9 0", "try 0", "bring 0", "tick", "bring 2", "clerkfalls",
		"clerkrises", "try 0", "bring 4", "tick", "bring 2", "bring 2", "bring 6", "bring 6", "bring 6", "try 0",
	}
}

// numberText is a number as a line may have it, and shape a whole line with numbers in the places of N (any) and P (not below 0).
const numberText = `(?:0|-?[1-9][0-9]{0,11})`

func shape(text string) *regexp.Regexp {
	text = strings.ReplaceAll(text, "N", numberText)
	return regexp.MustCompile(`\A` + strings.ReplaceAll(text, "P", `(?:0|[1-9][0-9]{0,11})`) + `\z`)
}

var (
	clientsShape = shape("clients N")
	givesShape   = shape("gives( N)+")
	startShape   = shape("start( N)+")
	eventShapes  = map[string]*regexp.Regexp{
		"call": shape("call P P N N"), "try": shape("try P"), "deaf": shape("deaf P"), "bring": shape("bring P"), "lose": shape("lose P"),
		"twice": shape("twice P"), "tick": shape("tick"), "fall": shape("fall P"), "rise": shape("rise P"), "clerkfalls": shape("clerkfalls"), "clerkrises": shape("clerkrises"),
	}
)

// eventKinds are by their words.
func eventKinds() map[string]int {
	return map[string]int{
		"call": impl.WldCall, "try": impl.WldTry, "deaf": impl.WldDeaf, "bring": impl.WldBring, "lose": impl.WldLose,
		"twice": impl.WldTwice, "tick": impl.WldTick, "fall": impl.WldFall, "rise": impl.WldRise, "clerkfalls": impl.WldClerk, "clerkrises": impl.WldClerk,
	}
}

// numbersIn are behind the word of a line that has such ones.
func numbersIn(line string) []int {
	var list []int
	for _, word := range strings.Fields(line)[1:] {
		n, err := strconv.Atoi(word)
		if err != nil {
			panic(err)
		}
		list = append(list, n)
	}
	return list
}

func eventByHand(line string) (impl.WldEvent, bool) {
	word := strings.Split(line, " ")[0]
	if len(line) > 120 || eventShapes[word] == nil || !eventShapes[word].MatchString(line) {
		return impl.WldEvent{}, false
	}
	e, numbers := impl.WldEvent{Kind: eventKinds()[word]}, numbersIn(line)
	if len(numbers) > 0 {
		e.At = numbers[0]
	}
	if len(numbers) > 1 {
		e.Act, e.Args = numbers[1], numbers[2:]
	}
	if word == "clerkrises" {
		e.At = 1
	}
	return e, true
}

func sameEvent(a, b impl.WldEvent) bool {
	return a.Kind == b.Kind && a.At == b.At && a.Act == b.Act && slices.Equal(a.Args, b.Args)
}

// lineOf is the line of an event with no place below 0; where the clerk rises At may be any above 0.
func lineOf(e impl.WldEvent) string {
	for word, kind := range eventKinds() {
		switch {
		case kind != e.Kind || word == "clerkfalls" && e.At > 0 || word == "clerkrises" && e.At == 0:
		case kind == impl.WldTick || kind == impl.WldClerk:
			return word
		case kind == impl.WldCall:
			return fmt.Sprintf("call %d %d %d %d", e.At, e.Act, e.Args[0], e.Args[1])
		default:
			return fmt.Sprintf("%s %d", word, e.At)
		}
	}
	panic(fmt.Sprint("no line of ", e))
}

func printByHand(p impl.PlnPlan) []string {
	lines := []string{fmt.Sprint("clients ", p.Clients), wordsByHand("gives", p.Gives), wordsByHand("start", p.Start)}
	for _, act := range p.Acts {
		lines = append(lines, "act")
		for _, l := range act {
			lines = append(lines, impl.ActText(l))
		}
	}
	return lines
}

func wordsByHand(word string, numbers []int) string {
	for _, n := range numbers {
		word += fmt.Sprintf(" %d", n)
	}
	return word
}

// wrongByHand says whether a line is wrong behind others that are not.
func wrongByHand(before []string, line string) bool {
	_, ofAct := impl.ActRead(line)
	switch place := len(before); {
	case len(line) > 120:
		return true
	case place == 0:
		return !clientsShape.MatchString(line)
	case place == 1:
		return !givesShape.MatchString(line)
	case place == 2:
		return !startShape.MatchString(line)
	}
	return line != "act" && !(ofAct && slices.Contains(before, "act"))
}

func parseByHand(lines []string) (impl.PlnPlan, int) {
	if len(lines) > 200 {
		return impl.PlnPlan{}, 201
	}
	for place, line := range lines {
		if wrongByHand(lines[:place], line) {
			return impl.PlnPlan{}, place + 1
		}
	}
	if p := readByHand(lines); impl.PlnOk(p) {
		return p, 0
	}
	return impl.PlnPlan{}, len(lines) + 1
}

// readByHand is of lines of which none is wrong.
func readByHand(lines []string) impl.PlnPlan {
	if len(lines) < 3 {
		return impl.PlnPlan{}
	}
	p := impl.PlnPlan{Clients: numbersIn(lines[0])[0], Gives: numbersIn(lines[1]), Start: numbersIn(lines[2])}
	for _, line := range lines[3:] {
		if line == "act" {
			p.Acts = append(p.Acts, nil)
			continue
		}
		l, _ := impl.ActRead(line)
		p.Acts[len(p.Acts)-1] = append(p.Acts[len(p.Acts)-1], l)
	}
	return p
}

func boardByHand(w impl.WldWorld) []string {
	var lines []string
	for _, one := range w.Log {
		lines = append(lines, fmt.Sprintf("client %d call %d %s", one.Call.Client, one.Call.Seq, impl.ResText(one.Res)))
	}
	rounds := []int{w.Clerk.Round}
	for _, s := range w.Sites {
		rounds = append(rounds, s.Round)
	}
	return append(lines, wordsByHand("pots", valsByHand(w)), wordsByHand("rounds", rounds))
}

// runByHand is of a plan of which no line is wrong.
func runByHand(plan, lines []string) []string {
	w := impl.WldNew(readByHand(plan))
	var told []string
	for place, line := range lines {
		if e, ok := eventByHand(line); ok {
			w = stepByHand(w, e)
		} else {
			told = append(told, fmt.Sprint("line ", place+1))
		}
	}
	return append(told, boardByHand(w)...)
}

// linedPlans have every kind of line in their acts, acts of no lines, and as few or as many of all as may be.
func linedPlans() []impl.PlnPlan {
	list := append(okPlans(), takers(), readByHand(example()))
	lines := okLines()
	turn := &turning{state: 300}
	for range 300 {
		p := turn.mixedPlan()
		p.Acts = append(p.Acts, nil)[:min(len(p.Acts)+1, impl.CatMax)]
		last := len(p.Acts) - 1
		p.Acts[last] = turn.someAct((turn.next(9) + 9) % (impl.ActMax + 1))
		list = append(list, p)
	}
	for _, l := range lines {
		p := plan(1, 1, 5)
		p.Acts = [][]impl.ActLine{nil, {l}, {}}
		list = append(list, p)
	}
	most := plan(impl.PlnMaxClients, 0, 50, 50, 50)
	for range impl.CatMax {
		most.Acts = append(most.Acts, slices.Repeat([]impl.ActLine{telling(form(-2, -2, -2, -2, -2, -20))}, impl.ActMax))
	}
	least := plan(1, 0, 0)
	least.Acts = [][]impl.ActLine{nil}
	return append(list, most, least)
}

// linedStrolls are plans with what happens on a stroll through their worlds, as lines.
func linedStrolls(state uint64, many, steps int, show func(plan, lines []string, last impl.WldWorld)) {
	var lines []string
	strolls(state, many, steps, func(before impl.WldWorld, e impl.WldEvent, then impl.WldWorld) {
		if lines = append(lines, lineOf(e)); len(lines) == steps {
			show(printByHand(then.Plan), lines, then)
			lines = nil
		}
	})
}

// notLines are none: neither of a run nor of a plan.
func notLines() []string {
	return []string{
		"", " ", "  ", "0", "-1", "1 2", "x", "rais 0", "Try 0", "TICK", "tick ", " tick", "tick 0", "tick\n", "\ttick", "tick tick", "try", "try ", "try  0", "try 0 ", " try 0", "try -1", "try 0 0",
		"try x", "try 00", "try 01", "try -0", "try +1", "try 1000000000000", "try 0x1", "try 1.0", "try 1_0", "try\t0", "try\x000", "try \u0661", "try \xff", "call", "call 0", "call 0 0", "call 0 0 0",
		"call 0 0 0 0 0", "call -1 0 0 0", "call 0 -1 0 0", "call 0 0 -0 0", "call 0 0 0 00", "call 0 0  0", "clerk 1", "clerkfalls 0", "clerkrises 1", "clerkrise", "clerk falls", "long", "line 1", "plan 1", "done",
		"acts", "act 0", "act act", "client 0 call 1 done", "pots 0 0 0", "rounds 0 0",
	}
}

// nearLines are a line with one byte turned, put in or taken out, and with a number more or less.
func nearLines(line string) []string {
	list := nearTexts(line, " -0123456789+acdefgiklnoprstuwxy")
	words := strings.Split(line, " ")
	for many := range words {
		list = append(list, strings.Join(words[:many], " "))
	}
	for _, more := range []string{" 0", " 1", " -1", " 0 0", "  0", " x"} {
		list = append(list, line+more)
	}
	return list
}
