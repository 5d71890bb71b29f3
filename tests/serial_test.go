package tests

import (
	"fmt"
	"math"
	"slices"
	"testing"

	"loop.example/concord/impl"
)

// someLog is calls that are ok, with results that need not be what comes of them.
func (t *turning) someLog(p impl.PlnPlan, many int) []impl.LogDone {
	var list []impl.LogDone
	for range many {
		one := call((t.next(99)+99)%p.Clients, 1+(t.next(999)+999)%impl.PlnMaxSeq, (t.next(99)+99)%len(p.Acts), t.args()...)
		list = append(list, logged(one, impl.ResDone, t.next(9)))
	}
	return list
}

// loggedPlans are plans with a Log of each size that is an edge.
func loggedPlans(state uint64, show func(p impl.PlnPlan, list []impl.LogDone)) {
	turn := &turning{state: state}
	for i := range 60 {
		p := turn.mixedPlan()
		show(p, turn.someLog(p, []int{0, 1, 2, 7, 40, impl.WldMaxLog - 1, impl.WldMaxLog}[i%7]))
	}
}

func TestP26SerRunByHand(t *testing.T) {
	codes, turned := map[int]int{}, 0
	loggedPlans(240, func(p impl.PlnPlan, list []impl.LogDone) {
		results, pots := impl.SerRun(p, list)
		want, wantPots := serialByHand(p, list)
		if !sameResults(results, want) || !slices.Equal(pots, wantPots) {
			t.Fatalf("SerRun of %v, %v is %v and %v, not %v and %v", p, list, results, pots, want, wantPots)
		}
		for _, r := range results {
			codes[r.Code]++
		}
		if !slices.Equal(pots, p.Start) {
			turned++
		}
	})
	if codes[impl.ResDone] < 500 || codes[impl.ResStopped] < 50 || codes[impl.ResOver] < 20 || turned < 20 {
		t.Errorf("too few of one kind: %v, %d", codes, turned)
	}
}

func TestP26TheFirstOnesAndThenTheOthers(t *testing.T) {
	loggedPlans(241, func(p impl.PlnPlan, list []impl.LogDone) {
		all, allPots := impl.SerRun(p, list)
		for _, at := range []int{0, len(list) / 3, max(0, len(list)-1), len(list)} {
			results, pots := impl.SerRun(p, list[:at])
			for _, one := range list[at:] {
				var r impl.ResResult
				r, pots = impl.ActRun(p.Acts[one.Call.Act], pots, one.Call.Args)
				results = append(results, r)
			}
			if !sameResults(results, all) || !slices.Equal(pots, allPots) {
				t.Fatalf("SerRun of %v and ActRun of those behind %d is %v and %v, not %v and %v", list, at, results, pots, all, allPots)
			}
		}
	})
}

func TestP26SerRunOfTakers(t *testing.T) {
	list := []impl.LogDone{
		logged(call(0, 1, 0, 9, 0), impl.ResOver),
		logged(call(1, 1, 2, 0, 0), impl.ResDone, 5, 6),
		logged(call(0, 9, 0, 9, 0), impl.ResDone),
		logged(call(2, 300, 3, 0, 0), impl.ResDone),
		logged(call(2, 1, 2, 0, 0), impl.ResDone),
		logged(call(0, 9, 0, 9, 0), impl.ResDone),
		logged(call(1, 4, 0, 4, 0), impl.ResDone),
		logged(call(1, 5, 1, -9, 0), impl.ResStopped),
	}
	results, pots := impl.SerRun(takers(), list)
	want := []impl.ResResult{
		result(impl.ResDone, 9), result(impl.ResDone, 0), result(impl.ResDone, 9), result(impl.ResStopped),
		result(impl.ResDone, 1), result(impl.ResDone, 9), result(impl.ResDone), result(impl.ResDone),
	}
	if !sameResults(results, want) || !slices.Equal(pots, []int{-6, 0, 2}) {
		t.Errorf("it is %v and %v", results, pots)
	}
	if results, pots := impl.SerRun(takers(), nil); len(results) != 0 || !slices.Equal(pots, []int{30, 0, 0}) {
		t.Errorf("of no calls it is %v and %v", results, pots)
	}
}

// A call that would leave too much turns nothing, and the next one goes on from there.
func TestP26SerRunAtTheEndOfPots(t *testing.T) {
	double := impl.PlnPlan{Clients: 1, Acts: [][]impl.ActLine{{adding(0, pot(0)), telling(pot(0))}}, Gives: []int{0}, Start: []int{1000, 0, 0}}
	list := slices.Repeat([]impl.LogDone{logged(call(0, 1, 0, 0, 0), impl.ResDone)}, 5)
	results, pots := impl.SerRun(double, list)
	want := []impl.ResResult{result(impl.ResDone, 2000), result(impl.ResDone, 4000), result(impl.ResDone, 8000), result(impl.ResOver), result(impl.ResOver)}
	if !sameResults(results, want) || !slices.Equal(pots, []int{8000, 0, 0}) {
		t.Errorf("it is %v and %v", results, pots)
	}
}

func checkNoSerRun(t *testing.T, why string, p impl.PlnPlan, list []impl.LogDone) {
	t.Helper()
	if results, pots := impl.SerRun(p, list); len(results) > 0 || len(pots) > 0 {
		t.Errorf("%s: SerRun of %v, %v is %v and %v", why, p, list, results, pots)
	}
}

func TestP26SerRunOfWhatIsNotOk(t *testing.T) {
	fine := stir().Log
	for _, p := range wrongPlans() {
		checkNoSerRun(t, "a plan that is not ok", p, fine)
		checkNoSerRun(t, "a plan that is not ok, and no calls", p, nil)
	}
	for at := range fine {
		for _, one := range append(wrongCalls(), call(3, 1, 0, 0, 0), call(0, 1, 4, 0, 0), impl.PlnCall{}) {
			list := slices.Clone(fine)
			list[at].Call = one
			checkNoSerRun(t, "a call that is not ok", takers(), list)
		}
		for _, r := range append(wrongResults(), impl.ResResult{}) {
			list := slices.Clone(fine)
			list[at].Res = r
			checkNoSerRun(t, "a result that is not ok", takers(), list)
		}
	}
	full := withLog(stir(), impl.WldMaxLog).Log
	if results, _ := impl.SerRun(takers(), full); len(results) != impl.WldMaxLog {
		t.Errorf("of as many as may be there are %d", len(results))
	}
	for _, many := range []int{impl.WldMaxLog + 1, 3000} {
		checkNoSerRun(t, "too many calls", takers(), withLog(stir(), many).Log)
	}
}

// spread is a world whose sites are in rounds of their own.
func spread(rounds ...int) impl.WldWorld {
	p := takers()
	p.Gives = []int{10, 6, 4}[:len(rounds)]
	w := impl.WldNew(p)
	w.Clerk.Round = 7
	for at, round := range rounds {
		w.Sites[at].Round, w.Sites[at].Added = round, []int{at + 1, -at, 0}
	}
	return w
}

func TestP17WhoIsBehind(t *testing.T) {
	for _, k := range []struct {
		rounds, behind, vals []int
	}{
		{[]int{7, 7, 7}, nil, []int{36, -3, 0}},
		{[]int{6, 7, 7}, []int{0}, []int{35, -3, 0}},
		{[]int{7, 6, 7}, []int{1}, []int{34, -2, 0}},
		{[]int{7, 7, 6}, []int{2}, []int{33, -1, 0}},
		{[]int{0, 7, 200}, []int{0, 2}, []int{32, -1, 0}},
		{[]int{6, 6, 6}, []int{0, 1, 2}, []int{30, 0, 0}},
		{[]int{8, 8, 8}, []int{0, 1, 2}, []int{30, 0, 0}},
		{[]int{7, 8}, []int{1}, []int{31, 0, 0}},
		{[]int{7}, nil, []int{31, 0, 0}},
		{[]int{6}, []int{0}, []int{30, 0, 0}},
	} {
		w := spread(k.rounds...)
		if behind, vals := impl.WldBehind(w), impl.WldVals(w); !slices.Equal(behind, k.behind) || !slices.Equal(vals, k.vals) {
			t.Errorf("with %v WldBehind is %v, and WldVals %v", k.rounds, behind, vals)
		}
		down := turnedWorld(w, func(w *impl.WldWorld) {
			w.Clerk.Up = false
			for at := range w.Sites {
				w.Sites[at].Up, w.Sites[at].Frozen = false, true
			}
		})
		if behind, vals := impl.WldBehind(down), impl.WldVals(down); !slices.Equal(behind, k.behind) || !slices.Equal(vals, k.vals) {
			t.Errorf("with all down WldBehind is %v, and WldVals %v", behind, vals)
		}
	}
}

func TestP17WithoutThoseBehind(t *testing.T) {
	t.Parallel()
	sizes := map[int]int{}
	for _, w := range append(looseWorlds(242, 60), strolledWorlds(243, 20, 300, 7)...) {
		behind, vals := impl.WldBehind(w), impl.WldVals(w)
		if !slices.Equal(behind, behindByHand(w)) || !slices.Equal(vals, valsByHand(w)) {
			t.Fatalf("of %v WldBehind is %v, and WldVals %v", w, behind, vals)
		}
		sum := slices.Clone(w.Clerk.Base)
		for at, s := range w.Sites {
			if !slices.Contains(behind, at) {
				sum = sumByHand(sum, s.Added)
			}
		}
		if !slices.Equal(vals, sum) {
			t.Fatalf("of %v WldVals is %v, and without those behind %v", w, vals, sum)
		}
		sizes[len(behind)]++
	}
	if sizes[0] < 100 || sizes[1] < 50 || sizes[2] < 10 || sizes[3] < 5 {
		t.Errorf("too few of one kind: %v", sizes)
	}
}

// What all have may be more than a pot can have, in worlds that do not come from WldNew.
func TestP17ValsAreNotHeldToAnything(t *testing.T) {
	w := turnedWorld(spread(7, 7, 7), func(w *impl.WldWorld) { w.Clerk.Base = []int{impl.ValMax, -impl.ValMax, 0} })
	if vals := impl.WldVals(w); !slices.Equal(vals, []int{impl.ValMax + 6, -impl.ValMax - 3, 0}) {
		t.Errorf("it is %v", vals)
	}
}

// checkNothingOf asks for the fixed answers at a world that is not ok.
func checkNothingOf(t *testing.T, w impl.WldWorld) {
	t.Helper()
	if vals, behind := impl.WldVals(w), impl.WldBehind(w); len(vals) > 0 || len(behind) > 0 {
		t.Errorf("of %v WldVals is %v, and WldBehind %v", w, vals, behind)
	}
	if impl.WldRest(w) || impl.SerSame(w) {
		t.Errorf("of %v WldRest is %v, and SerSame %v", w, impl.WldRest(w), impl.SerSame(w))
	}
	for _, events := range [][]impl.WldEvent{nil, {event(impl.WldTick, 0)}, make([]impl.WldEvent, impl.RunMaxEvents+1)} {
		if then := impl.WldRun(w, events); !isNoWorld(then) {
			t.Errorf("of %v WldRun of %d is %v", w, len(events), then)
		}
	}
	for _, rounds := range []int{-1, 0, 1, impl.CalmMaxRounds, impl.CalmMaxRounds + 1} {
		if then := impl.WldCalm(w, rounds); !isNoWorld(then) {
			t.Errorf("of %v WldCalm of %d is %v", w, rounds, then)
		}
	}
}

func TestSerialWithWrongInputs(t *testing.T) {
	t.Parallel()
	for _, w := range wrongWorlds() {
		checkNothingOf(t, w)
	}
	for _, p := range wrongPlans() {
		checkNothingOf(t, fittingWorld(p))
	}
	// Each of these would be at rest, with all as it should be, but for one thing that is not ok.
	for _, turn := range []func(w *impl.WldWorld){
		func(w *impl.WldWorld) { w.Sites[0].Round, w.Sites[1].Round, w.Clerk.Round = -1, -1, -1 },
		func(w *impl.WldWorld) { w.Clients[0].Res = result(impl.ResDone) },
		func(w *impl.WldWorld) { w.Clients = w.Clients[:2] },
		func(w *impl.WldWorld) { w.Clerk.Got = w.Clerk.Got[:1] },
		func(w *impl.WldWorld) { w.Plan.Clients = 0 },
	} {
		checkNothingOf(t, turnedWorld(impl.WldNew(takers()), turn))
	}
}

func TestP28EachCallOnceInItsOrder(t *testing.T) {
	check := func(clients int, list []impl.LogDone) {
		t.Helper()
		own := make([][]impl.LogDone, clients)
		all := 0
		for client := range clients {
			own[client] = impl.LogOf(list, client)
			all += len(own[client])
			if !sameLog(own[client], callsOf(list, client)) {
				t.Fatalf("LogOf %d of %v is %v", client, list, own[client])
			}
		}
		if all != len(list) {
			t.Fatalf("of %d calls there are %d", len(list), all)
		}
		for _, one := range list {
			client := one.Call.Client
			if len(own[client]) == 0 || !sameLogged(own[client][0], one) {
				t.Fatalf("of %v %v is not the next one of %d: %v", list, one, client, own[client])
			}
			own[client] = own[client][1:]
		}
	}
	loggedPlans(244, func(p impl.PlnPlan, list []impl.LogDone) { check(p.Clients, list) })
	for _, w := range strolledWorlds(245, 10, 300, 50) {
		check(w.Plan.Clients, w.Log)
	}
}

// Any Log: nothing of it must be ok.
func TestP28LogOfAnyLog(t *testing.T) {
	list := []impl.LogDone{
		{}, logged(call(-1, 0, 99), -7, math.MaxInt), logged(call(4, -5, -1, 1, 2, 3), impl.ResStopped, 1), logged(call(0, 3, 0, 99, 99), 0),
		logged(call(-1, 0, 99), -7, math.MaxInt), logged(call(math.MinInt, 1, 0), 1), logged(call(4, 1, 0, 0, 0), impl.ResDone), {},
	}
	for client, want := range map[int][]int{0: {0, 3, 7}, -1: {1, 4}, 4: {2, 6}, math.MinInt: {5}, math.MaxInt: nil, 1: nil, 99: nil, -2: nil} {
		var wanted []impl.LogDone
		for _, at := range want {
			wanted = append(wanted, list[at])
		}
		if own := impl.LogOf(list, client); !sameLog(own, wanted) {
			t.Errorf("LogOf %d is %v, not %v", client, own, wanted)
		}
	}
	long := slices.Repeat(list, 60)
	if own := impl.LogOf(long, 0); len(own) != 180 {
		t.Errorf("of a long one there are %d", len(own))
	}
	for _, client := range []int{-1, 0, 3, 4, math.MaxInt} {
		if own := impl.LogOf(nil, client); len(own) > 0 {
			t.Errorf("of none there are %v", own)
		}
		if own := impl.LogOf(stir().Log, client); client != 0 && len(own) > 0 {
			t.Errorf("of client %d there are %v", client, own)
		}
	}
}

// otherwise are worlds in each of which one result, one pot, or the order is another one; some of them may come to the same.
func otherwise(w impl.WldWorld, turn *turning) []impl.WldWorld {
	v, site := (turn.next(9)+9)%impl.FrmPots, (turn.next(9)+9)%len(w.Sites)
	list := []impl.WldWorld{
		w,
		turnedWorld(w, func(w *impl.WldWorld) { w.Clerk.Base[v]++ }),
		turnedWorld(w, func(w *impl.WldWorld) { w.Clerk.Base[v]-- }),
		turnedWorld(w, func(w *impl.WldWorld) { w.Sites[site].Round = min(impl.PlnMaxRound, w.Sites[site].Round+1) }),
		turnedWorld(w, func(w *impl.WldWorld) { w.Sites[site].Added = []int{0, 0, 0} }),
	}
	for at, one := range w.Log {
		results := []impl.ResResult{result(impl.ResStopped), result(impl.ResOver), result(impl.ResDone), result(impl.ResDone, append(slices.Clone(one.Res.Tells), 0)...)}
		for i, n := range one.Res.Tells {
			tells := slices.Clone(one.Res.Tells)
			tells[i] = n + 1
			results = append(results, result(impl.ResDone, tells...))
		}
		r := results[(turn.next(99)+99)%len(results)]
		list = append(list, turnedWorld(w, func(w *impl.WldWorld) { w.Log[at].Res = r }))
		if at > 0 {
			list = append(list, turnedWorld(w, func(w *impl.WldWorld) { w.Log = swapped(w.Log, at-1) }))
		}
	}
	if len(w.Log) > 0 {
		list = append(list, turnedWorld(w, func(w *impl.WldWorld) { w.Log = w.Log[:len(w.Log)-1] }), turnedWorld(w, func(w *impl.WldWorld) { w.Log = w.Log[1:] }))
	}
	return list
}

func TestP27SameJustIfAllIsAsItWouldBe(t *testing.T) {
	t.Parallel()
	turn, same, others := &turning{state: 246}, 0, 0
	for _, w := range append(strolledWorlds(247, 9, 300, 60), looseWorlds(248, 3)...) {
		for _, other := range otherwise(w, turn) {
			want := impl.WldOk(other) && sameByHand(other)
			results, pots := impl.SerRun(other.Plan, other.Log)
			byRun := impl.WldOk(other) && sameResults(results, resultsOf(other.Log)) && slices.Equal(pots, impl.WldVals(other))
			if got := impl.SerSame(other); got != want || got != byRun {
				t.Fatalf("SerSame of %v is %v, and SerRun %v and %v", other, got, results, pots)
			}
			if want {
				same++
			} else {
				others++
			}
		}
	}
	if same < 100 || others < 300 {
		t.Errorf("too few of one kind: %d, %d", same, others)
	}
}

// Of a world in which all is as it would be one thing at a time is otherwise.
func TestP27EachThingAlone(t *testing.T) {
	w := impl.WldCalm(impl.WldRun(impl.WldNew(takers()), []impl.WldEvent{
		calling(0, 0, 4, 0), event(impl.WldTry, 0), calling(1, 1, 2, 0), event(impl.WldTry, 1), calling(2, 2, 0, 0), calling(0, 3, 0, 0), event(impl.WldTry, 0),
	}), 4)
	if told := fmt.Sprint(impl.SerSame(w), len(w.Log), impl.WldVals(w)); told != "true 4 [28 0 1]" {
		t.Fatalf("it is %s", told)
	}
	for name, turn := range map[string]func(w *impl.WldWorld){
		"another code":          func(w *impl.WldWorld) { w.Log[2].Res = result(impl.ResOver) },
		"another number told":   func(w *impl.WldWorld) { w.Log[0].Res = result(impl.ResDone, 5) },
		"one number more":       func(w *impl.WldWorld) { w.Log[0].Res = result(impl.ResDone, 4, 0) },
		"no number":             func(w *impl.WldWorld) { w.Log[0].Res = result(impl.ResDone) },
		"the last result":       func(w *impl.WldWorld) { w.Log[3].Res = result(impl.ResDone, 1) },
		"the first pot":         func(w *impl.WldWorld) { w.Clerk.Base[0]++ },
		"the last pot":          func(w *impl.WldWorld) { w.Clerk.Base[2]-- },
		"something was added":   func(w *impl.WldWorld) { w.Sites[1].Added = []int{1, 0, 0} },
		"a call that is none":   func(w *impl.WldWorld) { w.Log = append(w.Log, logged(call(1, 2, 1, 3, 0), impl.ResDone)) },
		"a call is not there":   func(w *impl.WldWorld) { w.Log = w.Log[:3] },
		"another start":         func(w *impl.WldWorld) { w.Plan.Start = []int{31, 0, 0} },
		"another act":           func(w *impl.WldWorld) { w.Log[1].Call.Act = 0 },
		"more messages as fit":  func(w *impl.WldWorld) { w.Net = withNet(stir(), impl.WldMaxNet+1).Net },
		"added in an old round": func(w *impl.WldWorld) { w.Sites[0].Round, w.Sites[0].Added, w.Clerk.Base[0] = 0, []int{1, 0, 0}, 27 },
	} {
		if other := turnedWorld(w, turn); impl.SerSame(other) {
			t.Errorf("%s: SerSame is true of %v", name, other)
		}
	}
	for name, turn := range map[string]func(w *impl.WldWorld){
		"calls that wait, and messages": func(w *impl.WldWorld) {
			w.Net, w.Clients[1] = stir().Net, waiting(1, result(impl.ResDone), call(1, 2, 0, 1, 1))
		},
		"all are down":           func(w *impl.WldWorld) { w.Clerk.Up, w.Sites[0].Up = false, false },
		"added, and not in Base": func(w *impl.WldWorld) { w.Sites[1].Added, w.Clerk.Base[0] = []int{3, 0, 0}, 25 },
		"added in an old round":  func(w *impl.WldWorld) { w.Sites[0].Round, w.Sites[0].Added = 0, []int{1, 0, 0} },
		"empty lists":            func(w *impl.WldWorld) { w.Log[2].Res.Tells = []int{} },
	} {
		if other := turnedWorld(w, turn); !impl.SerSame(other) {
			t.Errorf("%s: SerSame is false of %v", name, other)
		}
	}
}
