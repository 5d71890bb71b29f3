package tests

import (
	"slices"
	"testing"

	"loop.example/concord/impl"
)

func checkClerk(t *testing.T, c clerkCase, want bool, why string) {
	t.Helper()
	if got := impl.ClkOk(c.p, c.c); got != want {
		t.Errorf("%s: ClkOk(%v, %v) is %v", why, c.p, c.c, got)
	}
}

func TestP35NewClerksHaveWhatThePlanLaysDown(t *testing.T) {
	for _, p := range okPlans() {
		c := impl.ClkNew(p)
		want := impl.ClkClerk{Up: true, Base: p.Start, Done: make([]impl.PlnDone, p.Clients), Got: make([]impl.ClkGot, len(p.Gives))}
		if !sameClerk(c, want) {
			t.Errorf("ClkNew(%v) is %v", p, c)
		}
		checkClerk(t, clerkCase{p, c}, true, "a new clerk")
		if impl.ClkReady(p, c) {
			t.Errorf("the clerk of %v is ready at its beginning", p)
		}
		checkClerk(t, clerkCase{p, fitting(p)}, true, "a clerk that fits its plan")
	}
	for _, p := range wrongPlans() {
		if c := impl.ClkNew(p); !isNoClerk(c) {
			t.Errorf("ClkNew(%v) is %v", p, c)
		}
	}
}

func TestClkOkAtTheEnds(t *testing.T) {
	fine := asker()
	for _, c := range []clerkCase{fine, fine.forgetful(), fine.down()} {
		checkClerk(t, c, true, "a clerk")
		for _, round := range []int{0, 1, impl.PlnMaxRound - 1, impl.PlnMaxRound} {
			checkClerk(t, c.turned(func(c *impl.ClkClerk) { c.Round = round }), true, "a round")
		}
		for _, base := range okVals() {
			checkClerk(t, c.turned(func(c *impl.ClkClerk) { c.Base = base }), true, "a base")
		}
		for _, one := range okDones() {
			checkClerk(t, c.turned(func(c *impl.ClkClerk) { c.Done[2] = one }), true, "what was done")
		}
	}
	last := call(2, impl.PlnMaxSeq, 3, impl.ArgMax, -impl.ArgMax)
	for _, calls := range [][]impl.PlnCall{nil, {}, fine.c.Wants[:1], fine.c.Wants[1:], {fine.c.Wants[0], fine.c.Wants[2]}, {last}, {fine.c.Wants[1], last}} {
		checkClerk(t, fine.turned(func(c *impl.ClkClerk) { c.Wants = calls }), true, "calls")
	}
	for site := range fine.p.Gives {
		for _, got := range []impl.ClkGot{{}, {Added: []int{}, Seqs: []int{}}, told([]int{0, 0, 0}, 0, 0, 0), told([]int{0, 0, 0}, impl.PlnMaxSeq, impl.PlnMaxSeq, impl.PlnMaxSeq)} {
			checkClerk(t, fine.turned(func(c *impl.ClkClerk) { c.Got[site] = got }), true, "what was told")
		}
	}
	checkClerk(t, fine.down().turned(func(c *impl.ClkClerk) { c.Wants, c.Got[0].Added = []impl.PlnCall{}, []int{} }), true, "not up, with empty lists")
}

func TestClkOkAtExactlyTheTreatysBound(t *testing.T) {
	for site, give := range takers().Gives {
		for _, sign := range []int{1, -1} {
			for v := range 2 {
				for more, want := range []bool{true, false} {
					c := asker().turned(func(c *impl.ClkClerk) {
						c.Got[site].Added = make([]int, impl.FrmPots)
						c.Got[site].Added[v] = sign * (give + more)
					})
					checkClerk(t, c, want, "just as far as it may go, or beyond by one")
				}
			}
			pinned := asker().turned(func(c *impl.ClkClerk) { c.Got[site].Added = []int{0, 0, sign} })
			checkClerk(t, pinned, false, "a pinned pot")
		}
	}
}

// Guards of some act ask for pots together, so that each of them alone may keep, and both not.
func TestClkOkAsksForThePartsOfAllActs(t *testing.T) {
	c := asker().turned(func(c *impl.ClkClerk) { c.Got[1].Added = []int{6, -6, 0} })
	checkClerk(t, c, true, "pots alone")
	c.p.Acts[3] = []impl.ActLine{asking(1, form(1, -1, 0, 0, 0, 0)), stopping()}
	checkClerk(t, c, false, "pots together")
	c.p.Acts[3] = []impl.ActLine{telling(pot(1))}
	checkClerk(t, c, false, "a pot that is pinned by the last act")
}

func TestClkOkOfManyClerks(t *testing.T) {
	for _, c := range clerks(90, 60) {
		checkClerk(t, c, true, "one of many")
		if len(c.c.Wants) > 0 {
			checkClerk(t, c.turned(func(c *impl.ClkClerk) { c.Up = false }), false, "not up, with calls")
		}
	}
}

func TestClkOkOfWhatIsNotOk(t *testing.T) {
	for _, c := range wrongClerkCases() {
		checkClerk(t, c, false, "not ok")
	}
	for _, p := range wrongPlans() {
		for _, c := range []impl.ClkClerk{asker().c, asker().forgetful().c, asker().down().c, {}, impl.ClkNew(p), fitting(p)} {
			checkClerk(t, clerkCase{p, c}, false, "by a plan that is not ok")
		}
	}
}

// checkNoClerk asks that each of the functions answers nothing.
func checkNoClerk(t *testing.T, c clerkCase, why string) {
	t.Helper()
	if answer := c.fold(); !sameAnswer(answer, clerkAnswer{}) {
		t.Errorf("%s: ClkFold is %v", why, answer)
	}
	for _, m := range []impl.MsgMsg{wants(call(0, 3, 1, 1, 0)), gives(0, 4, []int{0, 0, 0}, 0, 0, 0), freezes(0, 4)} {
		if answer := c.hear(m); !sameAnswer(answer, clerkAnswer{}) {
			t.Errorf("%s: ClkHear of %v is %v", why, m, answer)
		}
	}
	if says := c.tick(); len(says) != 0 {
		t.Errorf("%s: ClkTick is %v", why, says)
	}
	for _, up := range []bool{true, false} {
		if then := impl.ClkFall(c.p, c.c, up); !isNoClerk(then) {
			t.Errorf("%s: ClkFall is %v", why, then)
		}
	}
	if impl.ClkReady(c.p, c.c) {
		t.Errorf("%s: ClkReady is true", why)
	}
}

func TestClerksWithWrongInputs(t *testing.T) {
	for _, c := range wrongClerkCases() {
		checkNoClerk(t, c, "a clerk that is not ok")
	}
	for _, p := range wrongPlans() {
		for _, c := range []impl.ClkClerk{asker().c, asker().down().c, {}, fitting(p)} {
			checkNoClerk(t, clerkCase{p, c}, "a plan that is not ok")
		}
	}
}

func TestClkReadyWhereAllHaveTold(t *testing.T) {
	ready, not := 0, 0
	for _, c := range clerks(91, 60) {
		if got := impl.ClkReady(c.p, c.c); got != c.ready() {
			t.Fatalf("ClkReady of %v is %v", c, got)
		}
		if !c.ready() {
			not++
			continue
		}
		ready++
		for site := range c.p.Gives {
			less := c.turned(func(c *impl.ClkClerk) { c.Got[site] = impl.ClkGot{} })
			if impl.ClkReady(less.p, less.c) {
				t.Fatalf("ClkReady of %v is true without site %d", c, site)
			}
		}
	}
	if ready < 100 || not < 50 {
		t.Errorf("only %d are ready, and %d not", ready, not)
	}
}

func TestClkFoldByHand(t *testing.T) {
	var n struct{ ended, did, left, over, last, waits int }
	for _, c := range clerks(92, 200) {
		got, want := c.fold(), c.foldByHand()
		if !sameAnswer(got, want) {
			t.Fatalf("ClkFold of %v is %v, not %v", c, got, want)
		}
		switch {
		case got.c.Round > c.c.Round:
			n.ended++
			n.did += len(got.calls)
			n.left += len(c.c.Wants) - len(got.calls)
		case !c.ready():
			n.waits++
		case c.c.Round == impl.PlnMaxRound:
			n.last++
		default:
			n.over++
		}
	}
	if n.ended < 200 || n.did < 200 || n.left < 100 || n.over < 5 || n.last < 30 || n.waits < 100 {
		t.Errorf("too few of one kind: %+v", n)
	}
}

func TestP36ARoundEnds(t *testing.T) {
	ended := 0
	for _, c := range clerks(93, 200) {
		got := c.fold()
		ends := impl.ClkReady(c.p, c.c) && c.c.Round < impl.PlnMaxRound && impl.ValOk(c.pots())
		if !ends {
			if !sameAnswer(got, clerkAnswer{c: c.c}) {
				t.Fatalf("the round of %v goes on, and ClkFold is %v", c, got)
			}
			continue
		}
		ended++
		pots := c.pots()
		for i, one := range got.calls {
			var r impl.ResResult
			r, pots = impl.ActRun(c.p.Acts[one.Act], pots, one.Args)
			if !sameResult(r, got.results[i]) || !sameDone(got.c.Done[one.Client], impl.PlnDone{Seq: one.Seq, Res: r}) {
				t.Fatalf("%v is %v, and the clerk is %v with %v", one, r, got.c, got.results)
			}
		}
		if got.c.Round != c.c.Round+1 || !slices.Equal(got.c.Base, pots) || len(got.c.Wants) != 0 || !got.c.Up || !impl.ClkOk(c.p, got.c) {
			t.Fatalf("ClkFold of %v is %v, and the pots %v", c, got, pots)
		}
		if !slices.EqualFunc(got.c.Got, make([]impl.ClkGot, len(c.p.Gives)), sameGot) {
			t.Fatalf("behind the round %v is told", got.c.Got)
		}
	}
	if ended < 200 {
		t.Errorf("only %d ended", ended)
	}
}

func TestP37JustTheNextCallsAreDone(t *testing.T) {
	next, not := 0, 0
	for _, c := range clerks(94, 200) {
		got := c.fold()
		if got.c.Round == c.c.Round {
			continue
		}
		var want []impl.PlnCall
		for _, one := range c.c.Wants {
			if c.isNext(one) {
				want = append(want, one)
			} else if not++; !sameDone(got.c.Done[one.Client], c.c.Done[one.Client]) {
				t.Fatalf("%v is not the next one, and the clerk is %v", one, got.c)
			}
		}
		next += len(want)
		if !sameCalls(got.calls, want) || len(got.results) != len(want) {
			t.Fatalf("ClkFold of %v does %v, not %v", c, got.calls, want)
		}
	}
	if next < 200 || not < 100 {
		t.Errorf("only %d were the next ones, and %d not", next, not)
	}
}

// foldCase is a turn of asker: what the round comes to; a Round of -1 is one that goes on.
type foldCase struct {
	name    string
	turn    func(c *impl.ClkClerk)
	round   int
	base    []int
	calls   []impl.PlnCall
	results []impl.ResResult
}

func checkFolds(t *testing.T, fine clerkCase, cases []foldCase) {
	t.Helper()
	for _, k := range cases {
		c := fine.turned(k.turn)
		checkClerk(t, c, true, k.name)
		want := clerkAnswer{c: copyOfClerk(c.c), calls: k.calls, results: k.results}
		if k.round >= 0 {
			want.c.Round, want.c.Base, want.c.Wants, want.c.Got = k.round, k.base, nil, make([]impl.ClkGot, len(c.c.Got))
		}
		for i, one := range k.calls {
			want.c.Done[one.Client] = impl.PlnDone{Seq: one.Seq, Res: k.results[i]}
		}
		if got := c.fold(); !sameAnswer(got, want) {
			t.Errorf("%s: ClkFold is %v, not %v", k.name, got, want)
		}
	}
}

func TestP36P37ClkFoldOfAnAsker(t *testing.T) {
	three := asker().c.Wants
	results := []impl.ResResult{result(impl.ResDone, 2), result(impl.ResDone, 9), result(impl.ResDone, 3)}
	const last = impl.PlnMaxRound
	checkFolds(t, asker(), []foldCase{
		{"a call of each client", func(c *impl.ClkClerk) {}, 5, []int{15, 2, 4}, three, results},
		{"no call", func(c *impl.ClkClerk) { c.Wants = nil }, 5, []int{24, 2, 2}, nil, nil},
		{"the first round", func(c *impl.ClkClerk) { c.Round = 0 }, 1, []int{15, 2, 4}, three, results},
		{"the last round but one", func(c *impl.ClkClerk) { c.Round = last - 1 }, last, []int{15, 2, 4}, three, results},
		{"the last round", func(c *impl.ClkClerk) { c.Round = last }, -1, nil, nil, nil},
		{"site 0 has not told", func(c *impl.ClkClerk) { c.Got[0] = impl.ClkGot{} }, -1, nil, nil, nil},
		{"site 1 has not told", func(c *impl.ClkClerk) { c.Got[1] = impl.ClkGot{} }, -1, nil, nil, nil},
		{"no site has told", func(c *impl.ClkClerk) { c.Got = make([]impl.ClkGot, 2) }, -1, nil, nil, nil},
		{"nothing was added", func(c *impl.ClkClerk) { c.Got[0].Added, c.Got[1].Added = []int{0, 0, 0}, []int{0, 0, 0} }, 5, []int{16, 1, 4}, three, results},
		{"it is not up", func(c *impl.ClkClerk) { *c = asker().down().c }, -1, nil, nil, nil},
	})
	stops, takes := call(0, 3, 3, 0, 0), call(1, 2, 1, -9, 0)
	checkFolds(t, asker(), []foldCase{
		{"one that stops is done", func(c *impl.ClkClerk) { c.Wants[0], c.Wants[1] = stops, takes }, 5, []int{15, 2, 3},
			[]impl.PlnCall{stops, takes, three[2]}, []impl.ResResult{result(impl.ResStopped), result(impl.ResDone), result(impl.ResDone, 2)}},
		{"one whose test does not hold is done", func(c *impl.ClkClerk) { c.Base, c.Wants = []int{9, 1, 2}, three[1:2] }, 5, []int{8, 2, 2},
			three[1:2], []impl.ResResult{result(impl.ResDone)}},
	})
}

func TestP36PotsAtTheEnds(t *testing.T) {
	const v = impl.ValMax
	three := []impl.PlnCall{call(0, 3, 1, 9, 0), call(1, 2, 1, -1, 0), call(2, 1, 1, 2, 0)}
	base := func(pots ...int) func(c *impl.ClkClerk) {
		return func(c *impl.ClkClerk) { c.Base, c.Wants = pots, nil }
	}
	far := func(from, a, b int) func(c *impl.ClkClerk) {
		return func(c *impl.ClkClerk) {
			c.Base, c.Wants, c.Got[0].Added, c.Got[1].Added = []int{from, 0, 0}, nil, []int{a, 0, 0}, []int{b, 0, 0}
		}
	}
	checkFolds(t, asker(), []foldCase{
		{"pot 0 has just what it may have", base(1-v, 0, 0), 5, []int{-v, 1, 0}, nil, nil},
		{"pot 0 has too little by one", base(-v, 0, 0), -1, nil, nil, nil},
		{"pot 1 has just what it may have", base(0, v-1, 0), 5, []int{-1, v, 0}, nil, nil},
		{"pot 1 has too much by one", base(0, v, 0), -1, nil, nil, nil},
		{"pot 2 has what it had, at its end", base(0, 0, v), 5, []int{-1, 1, v}, nil, nil},
		{"both sites, just", far(v-16, 10, 6), 5, []int{v, 0, 0}, nil, nil},
		{"both sites, beyond by one", far(v-15, 10, 6), -1, nil, nil, nil},
		{"both sites, just, below", far(16-v, -10, -6), 5, []int{-v, 0, 0}, nil, nil},
		{"both sites, beyond by one, below", far(15-v, -10, -6), -1, nil, nil, nil},
		{"one site is beyond, both together are not", far(v-4, 10, -6), 5, []int{v, 0, 0}, nil, nil},
		{"one site is beyond, and so are both together", far(v-3, 10, -6), -1, nil, nil, nil},
		{"a call that goes too far is over, and the next ones go on", func(c *impl.ClkClerk) { c.Base, c.Wants = []int{v, 0, 0}, three }, 5, []int{v, 1, 0},
			three, []impl.ResResult{result(impl.ResOver), result(impl.ResDone), result(impl.ResDone)}},
	})
}

// The home of clients 0 and 2 has told that 2 and 0 calls are done there, that of client 1 has told of one.
func TestP37WhichCallIsTheNextOne(t *testing.T) {
	const m = impl.PlnMaxSeq
	for _, k := range []struct {
		name string
		seq  int
		told int
		does bool
	}{
		{"the one behind", 3, 2, true},
		{"the same", 2, 2, false},
		{"one earlier", 1, 2, false},
		{"one that skips a number", 4, 2, false},
		{"one that skips many", m, 2, false},
		{"the first one", 1, 0, true},
		{"the second one without a first one", 2, 0, false},
		{"the last one", m, m - 1, true},
		{"the last one once more", m, m, false},
		{"one earlier than the last one", m - 1, m, false},
	} {
		for client := range 3 {
			c := asker().turned(func(c *impl.ClkClerk) {
				one := call(client, k.seq, 2, 0, 0)
				c.Wants, c.Got[client%2].Seqs[client] = []impl.PlnCall{one}, k.told
				// What the clerk knows of rounds, and what the other site tells, would say otherwise.
				c.Done[client], c.Got[1-client%2].Seqs[client] = impl.PlnDone{}, 7
				if k.does {
					c.Done[client] = done(7, impl.ResOver)
				}
			})
			got := c.fold()
			if k.does != (len(got.calls) == 1) || k.does != (len(got.results) == 1) || got.c.Round != 5 {
				t.Fatalf("%s, of client %d: ClkFold is %v", k.name, client, got)
			}
			want := c.c.Done[client]
			if k.does {
				want = done(k.seq, impl.ResDone, 2)
			}
			if !sameDone(got.c.Done[client], want) {
				t.Errorf("%s, of client %d: done is %v, not %v", k.name, client, got.c.Done[client], want)
			}
		}
	}
}

// Where one call is left out, those behind it are done on what those ahead of it left.
func TestP37OneCallIsLeftOut(t *testing.T) {
	three := asker().c.Wants
	checkFolds(t, asker(), []foldCase{
		{"the first one", func(c *impl.ClkClerk) { c.Wants[0].Seq = 4 }, 5, []int{15, 2, 3}, three[1:], []impl.ResResult{result(impl.ResDone, 9), result(impl.ResDone, 2)}},
		{"the second one", func(c *impl.ClkClerk) { c.Wants[1].Seq = 1 }, 5, []int{24, 2, 4}, []impl.PlnCall{three[0], three[2]}, []impl.ResResult{result(impl.ResDone, 2), result(impl.ResDone, 3)}},
		{"the third one", func(c *impl.ClkClerk) { c.Wants[2].Seq = 6 }, 5, []int{15, 2, 3}, three[:2], []impl.ResResult{result(impl.ResDone, 2), result(impl.ResDone, 9)}},
		{"all", func(c *impl.ClkClerk) { c.Wants[0].Seq, c.Wants[1].Seq, c.Wants[2].Seq = 2, 3, 2 }, 5, []int{24, 2, 2}, nil, nil},
	})
}

// One site, and the most sites and clients: client 3 is at home at site 0.
func TestP36P37ClkFoldOfOneSiteAndTheMost(t *testing.T) {
	one := clerkCase{p: takers()}
	one.p.Gives, one.p.Clients = []int{10}, 4
	one.c = impl.ClkNew(one.p)
	calls := []impl.PlnCall{call(0, 2, 2, 0, 0), call(1, 1, 2, 0, 0), call(2, 1, 1, 5, 0), call(3, 1, 2, 0, 0)}
	checkFolds(t, one, []foldCase{
		{"one site that has not told", func(c *impl.ClkClerk) { c.Wants = calls }, -1, nil, nil, nil},
		{"one site", func(c *impl.ClkClerk) { c.Wants, c.Got[0] = calls, told([]int{10, -10, 0}, 1, 0, 0, 0) }, 1, []int{45, -10, 3},
			calls, []impl.ResResult{result(impl.ResDone, 0), result(impl.ResDone, 1), result(impl.ResDone), result(impl.ResDone, 2)}},
	})
	most := one
	most.p.Gives = []int{10, 0, impl.TrtMaxGive}
	most.c = impl.ClkNew(most.p)
	got := []impl.ClkGot{told([]int{10, 1, 0}, 1, 8, 8, 0), told([]int{0, 0, 0}, 8, 0, 8, 8), told([]int{-50, 50, 0}, 8, 8, 0, 8)}
	cases := []foldCase{
		{"the most sites", func(c *impl.ClkClerk) { c.Wants, c.Got = calls, got }, 1, []int{-5, 51, 3},
			calls, []impl.ResResult{result(impl.ResDone, 0), result(impl.ResDone, 1), result(impl.ResDone), result(impl.ResDone, 2)}},
	}
	for site := range got {
		cases = append(cases, foldCase{"one of them has not told", func(c *impl.ClkClerk) {
			c.Wants, c.Got = calls, slices.Clone(got)
			c.Got[site] = impl.ClkGot{}
		}, -1, nil, nil, nil})
	}
	checkFolds(t, most, cases)
}
