package tests

import (
	"slices"
	"testing"

	"loop.example/concord/impl"
)

func TestClkHearByHand(t *testing.T) {
	var n struct{ ended, did, waits, told, nothing int }
	turn := &turning{state: 95}
	for _, c := range clerks(96, 60) {
		for _, m := range c.messages(turn) {
			got, want := c.hear(m), c.hearByHand(m)
			if !sameAnswer(got, want) {
				t.Fatalf("ClkHear of %v by %v is %v, not %v", m, c, got, want)
			}
			switch {
			case got.c.Round > c.c.Round:
				n.ended++
				n.did += len(got.calls)
			case sameClerk(got.c, c.c):
				n.nothing++
			case m.Kind == impl.MsgWant:
				n.waits++
			default:
				n.told++
			}
		}
	}
	if n.ended < 100 || n.did < 100 || n.waits < 100 || n.told < 100 || n.nothing < 1000 {
		t.Errorf("too few of one kind: %+v", n)
	}
}

func TestP38ClkHearGoesForward(t *testing.T) {
	late := 0
	turn := &turning{state: 97}
	for _, c := range clerks(98, 50) {
		for _, m := range c.messages(turn) {
			got := c.hear(m)
			if !impl.ClkOk(c.p, got.c) || got.c.Round < c.c.Round || got.c.Round > c.c.Round+1 || got.c.Up != c.c.Up {
				t.Fatalf("ClkHear of %v by %v leaves %v", m, c, got.c)
			}
			if len(got.calls) != len(got.results) || len(got.calls) > 0 && got.c.Round == c.c.Round {
				t.Fatalf("ClkHear of %v by %v does %v, %v", m, c, got.calls, got.results)
			}
			if m.Kind == impl.MsgGive && m.Round != c.c.Round {
				late++
				if !sameAnswer(got, clerkAnswer{c: c.c}) {
					t.Fatalf("%v is of another round, and ClkHear by %v is %v", m, c, got)
				}
			}
		}
	}
	if late < 500 {
		t.Errorf("only %d were of another round", late)
	}
}

func TestP38HeardTwiceIsAsOnce(t *testing.T) {
	did := 0
	turn := &turning{state: 99}
	for _, c := range clerks(100, 50) {
		for _, m := range c.messages(turn) {
			once := c.hear(m)
			twice := c.with(once.c).hear(m)
			if !sameAnswer(twice, clerkAnswer{c: once.c}) {
				t.Fatalf("ClkHear of %v by %v is %v, and once more %v", m, c, once, twice)
			}
			did += len(once.calls)
		}
	}
	if did < 50 {
		t.Errorf("only %d were done", did)
	}
}

func TestP39TheCallWaits(t *testing.T) {
	later, instead, more := 0, 0, 0
	turn := &turning{state: 101}
	for _, c := range clerks(102, 60) {
		for _, m := range c.messages(turn) {
			if m.Kind != impl.MsgWant || !c.c.Up {
				continue
			}
			got := c.hear(m)
			mine := slices.IndexFunc(got.c.Wants, func(one impl.PlnCall) bool { return one.Client == m.Call.Client })
			if mine < 0 || !sameCall(got.c.Wants[mine], m.Call) && got.c.Wants[mine].Seq <= m.Call.Seq {
				t.Fatalf("behind %v %v wait", m, got.c.Wants)
			}
			others := func(one impl.PlnCall) bool { return one.Client == m.Call.Client }
			if !sameCalls(slices.DeleteFunc(slices.Clone(got.c.Wants), others), slices.DeleteFunc(slices.Clone(c.c.Wants), others)) {
				t.Fatalf("behind %v %v wait, and ahead of it %v", m, got.c.Wants, c.c.Wants)
			}
			same := c.turned(func(c *impl.ClkClerk) { c.Wants = got.c.Wants })
			if !sameAnswer(got, clerkAnswer{c: same.c}) {
				t.Fatalf("behind %v more than what waits has turned: %v", m, got)
			}
			switch {
			case len(got.c.Wants) > len(c.c.Wants):
				more++
			case sameCalls(got.c.Wants, c.c.Wants):
				later++
			default:
				instead++
			}
		}
	}
	if min(later, instead, more) < 50 {
		t.Errorf("too few of one kind: %d, %d, %d", later, instead, more)
	}
}

// wantCase is a MsgWant, and what waits behind it.
type wantCase struct {
	name  string
	first []impl.PlnCall
	one   impl.PlnCall
	want  []impl.PlnCall
}

func TestP39ClkHearOfWants(t *testing.T) {
	a, b, c := call(0, 3, 2, 0, 0), call(1, 2, 0, 9, 0), call(2, 1, 2, 0, 0)
	smaller, same, greater := call(1, 1, 1, 4, 4), call(1, 2, 1, 4, 4), call(1, 3, 1, 4, 4)
	last := call(1, impl.PlnMaxSeq, 3, 9, -9)
	for _, k := range []wantCase{
		{"none waits", nil, b, []impl.PlnCall{b}},
		{"one of an earlier client waits", []impl.PlnCall{a}, b, []impl.PlnCall{a, b}},
		{"one of a later client waits", []impl.PlnCall{c}, b, []impl.PlnCall{b, c}},
		{"both wait, and it is between", []impl.PlnCall{a, c}, b, []impl.PlnCall{a, b, c}},
		{"both wait, and it is the first one", []impl.PlnCall{b, c}, a, []impl.PlnCall{a, b, c}},
		{"both wait, and it is the last one", []impl.PlnCall{a, b}, c, []impl.PlnCall{a, b, c}},
		{"in the place of one with a smaller Seq", []impl.PlnCall{a, b, c}, greater, []impl.PlnCall{a, greater, c}},
		{"in the place of one with the same Seq", []impl.PlnCall{a, b, c}, same, []impl.PlnCall{a, same, c}},
		{"one with a greater Seq stays", []impl.PlnCall{a, b, c}, smaller, []impl.PlnCall{a, b, c}},
		{"the same call once more", []impl.PlnCall{a, b, c}, b, []impl.PlnCall{a, b, c}},
		{"the last Seq", []impl.PlnCall{a, b, c}, last, []impl.PlnCall{a, last, c}},
		{"one with the last Seq stays", []impl.PlnCall{last}, greater, []impl.PlnCall{last}},
		{"alone, in the place of one with a smaller Seq", []impl.PlnCall{b}, greater, []impl.PlnCall{greater}},
	} {
		for _, round := range []int{0, 4, impl.PlnMaxRound} {
			clerk := asker().turned(func(c *impl.ClkClerk) { c.Wants, c.Round, c.Got[1] = k.first, round, impl.ClkGot{} })
			want := clerk.turned(func(c *impl.ClkClerk) { c.Wants = k.want })
			if got := clerk.hear(wants(k.one)); !sameAnswer(got, clerkAnswer{c: want.c}) {
				t.Errorf("%s: ClkHear is %v, not %v", k.name, got, want.c)
			}
		}
	}
	down := asker().down()
	if got := down.hear(wants(b)); !sameAnswer(got, clerkAnswer{c: down.c}) {
		t.Errorf("not up: ClkHear is %v", got)
	}
}

// A call may come when all have told already, as at the last round: no round ends by that.
func TestP39AWantEndsNoRound(t *testing.T) {
	c := asker()
	one := call(2, 2, 1, 3, 0)
	want := c.turned(func(c *impl.ClkClerk) { c.Wants[2] = one })
	if got := c.hear(wants(one)); !sameAnswer(got, clerkAnswer{c: want.c}) {
		t.Errorf("ClkHear is %v, not %v", got, want.c)
	}
}

// giveCase is a MsgGive at asker with a site that has not told: what is told by it, and whether the round ends.
type giveCase struct {
	name  string
	m     impl.MsgMsg
	takes bool
	ends  bool
}

func checkGives(t *testing.T, c clerkCase, cases []giveCase) {
	t.Helper()
	for _, k := range cases {
		want := clerkAnswer{c: c.c}
		if k.takes {
			want.c = c.turned(func(c *impl.ClkClerk) { c.Got[k.m.From] = told(k.m.Vals, k.m.Seqs...) }).c
		}
		if k.ends {
			want = c.with(want.c).foldByHand()
			want.says = c.with(want.c).pacts()
		}
		got := c.hear(k.m)
		if !sameAnswer(got, want) || k.ends != (got.c.Round == c.c.Round+1) {
			t.Errorf("%s: ClkHear is %v, not %v", k.name, got, want)
		}
		if twice := c.with(got.c).hear(k.m); !sameAnswer(twice, clerkAnswer{c: got.c}) {
			t.Errorf("%s, twice: ClkHear is %v, and was %v", k.name, twice, got)
		}
	}
}

func TestP38ClkHearOfGives(t *testing.T) {
	none := asker().turned(func(c *impl.ClkClerk) { c.Got = make([]impl.ClkGot, 2) })
	first := asker().turned(func(c *impl.ClkClerk) { c.Got[1] = impl.ClkGot{} })
	second := asker().turned(func(c *impl.ClkClerk) { c.Got[0] = impl.ClkGot{} })
	vals := []int{1, 2, 0}
	checkGives(t, none, []giveCase{
		{"the first one that tells", gives(0, 4, vals, 2, 0, 0), true, false},
		{"the last site is the first one that tells", gives(1, 4, vals, 0, 1, 0), true, false},
		{"of the round ahead", gives(0, 3, vals, 2, 0, 0), false, false},
		{"of the next round", gives(0, 5, vals, 2, 0, 0), false, false},
	})
	checkGives(t, first, []giveCase{
		{"the last one that tells", gives(1, 4, vals, 0, 1, 0), true, true},
		{"it has added nothing", gives(1, 4, []int{0, 0, 0}, 0, 0, 0), true, true},
		{"just as far as it may go", gives(1, 4, []int{6, -6, 0}, 0, 1, 0), true, true},
		{"too far by one", gives(1, 4, []int{7, 0, 0}, 0, 1, 0), false, false},
		{"too far by one, below", gives(1, 4, []int{0, -7, 0}, 0, 1, 0), false, false},
		{"as far as it may be, and no treaty allows", gives(1, 4, []int{2 * impl.ValMax, 0, 0}, 0, 1, 0), false, false},
		{"a pinned pot", gives(1, 4, []int{0, 0, 1}, 0, 1, 0), false, false},
		{"of an earlier round", gives(1, 3, vals, 0, 1, 0), false, false},
		{"of a later round", gives(1, 5, vals, 0, 1, 0), false, false},
		{"of the first round", gives(1, 0, vals, 0, 1, 0), false, false},
		{"of the last round", gives(1, impl.PlnMaxRound, vals, 0, 1, 0), false, false},
		{"one that has told tells otherwise", gives(0, 4, []int{10, 0, 0}, 2, 0, 0), true, false},
		{"one that has told tells what may not be", gives(0, 4, []int{11, 0, 0}, 2, 0, 0), false, false},
	})
	checkGives(t, second, []giveCase{
		{"site 0 is the last one that tells", gives(0, 4, []int{10, 0, 0}, 2, 0, 0), true, true},
		{"site 0, too far by one", gives(0, 4, []int{11, 0, 0}, 2, 0, 0), false, false},
	})
	checkGives(t, asker().down(), []giveCase{{"not up", gives(1, 4, vals, 0, 1, 0), false, false}})
}

func TestP36P38ClkHearWhereNoRoundEnds(t *testing.T) {
	const v = impl.ValMax
	first := asker().turned(func(c *impl.ClkClerk) { c.Got[1] = impl.ClkGot{} })
	give := func(round, n int) impl.MsgMsg { return gives(1, round, []int{n, 0, 0}, 0, 1, 0) }
	at := func(round, pot int) clerkCase {
		return first.turned(func(c *impl.ClkClerk) { c.Round, c.Base[0] = round, pot })
	}
	checkGives(t, at(0, 25), []giveCase{{"the first round", give(0, 2), true, true}})
	checkGives(t, at(impl.PlnMaxRound-1, 25), []giveCase{{"the last round but one", give(impl.PlnMaxRound-1, 2), true, true}})
	checkGives(t, at(impl.PlnMaxRound, 25), []giveCase{{"the last round", give(impl.PlnMaxRound, 2), true, false}})
	checkGives(t, at(4, v), []giveCase{
		{"all together just what a pot may have", give(4, 3), true, true},
		{"all together too much by one", give(4, 4), true, false},
	})
	checkGives(t, at(4, -v), []giveCase{
		{"all together just what a pot may have, below", give(4, 3), true, true},
		{"all together too little by one", give(4, 2), true, false},
	})
}

// Behind too much the same site may tell otherwise, and the round ends then.
func TestP36ARoundThatWentOnEnds(t *testing.T) {
	c := asker().turned(func(c *impl.ClkClerk) { c.Base[0], c.Got[1].Added = impl.ValMax, []int{6, 0, 0} })
	if got := c.fold(); !sameAnswer(got, clerkAnswer{c: c.c}) {
		t.Fatalf("ClkFold is %v", got)
	}
	checkGives(t, c, []giveCase{{"less", gives(1, 4, []int{3, 0, 0}, 0, 1, 0), true, true}})
}

// What is for a site turns nothing, and is not heard.
func TestClkHearOfWhatIsForSites(t *testing.T) {
	list := []impl.PlnDone{done(9, impl.ResDone, 1), done(9, impl.ResDone, 2), done(9, impl.ResDone, 3)}
	for _, c := range []clerkCase{asker(), asker().forgetful(), asker().down()} {
		for site := range c.p.Gives {
			for _, round := range []int{0, 3, 4, 5, impl.PlnMaxRound} {
				for _, m := range []impl.MsgMsg{freezes(site, round), agrees(site, round, []int{7, 8, 9}, list...)} {
					if got := c.hear(m); !sameAnswer(got, clerkAnswer{c: c.c}) {
						t.Errorf("ClkHear of %v is %v", m, got)
					}
				}
			}
		}
	}
}

func TestClkHearOfMessagesThatAreNotOk(t *testing.T) {
	for _, c := range []clerkCase{asker(), asker().forgetful(), asker().down()} {
		for _, m := range wrongMessages(c.p) {
			if got := c.hear(m); !sameAnswer(got, clerkAnswer{}) {
				t.Errorf("ClkHear of %v is %v", m, got)
			}
		}
	}
}

func TestP40WhatClkTickSays(t *testing.T) {
	freezing, not, down := 0, 0, 0
	for _, c := range slices.Concat(clerks(103, 60), quietClerks(104, 20)) {
		var want []impl.MsgMsg
		if c.c.Up {
			want = c.pacts()
		}
		if len(c.c.Wants) > 0 || slices.ContainsFunc(c.c.Got, func(g impl.ClkGot) bool { return g.Has }) {
			freezing++
			for site := range c.p.Gives {
				want = append(want, freezes(site, c.c.Round))
			}
		} else if c.c.Up {
			not++
		} else {
			down++
		}
		if says := c.tick(); !sameMessages(says, want) {
			t.Fatalf("ClkTick of %v is %v, not %v", c, says, want)
		}
	}
	if min(freezing, not, down) < 10 {
		t.Errorf("too few of one kind: %d, %d, %d", freezing, not, down)
	}
}

// quietClerks have nothing that waits, and nothing told.
func quietClerks(state uint64, many int) []clerkCase {
	var list []clerkCase
	for _, c := range clerks(state, many) {
		list = append(list, c.forgetful())
	}
	return list
}

func TestP40ClkTickOfAnAsker(t *testing.T) {
	fine := asker()
	done := fine.c.Done
	pacts := []impl.MsgMsg{agrees(0, 4, []int{25, 1, 2}, done...), agrees(1, 4, []int{25, 1, 2}, done...)}
	all := append(slices.Clone(pacts), freezes(0, 4), freezes(1, 4))
	only := func(turn func(c *impl.ClkClerk)) clerkCase { return fine.forgetful().turned(turn) }
	for _, k := range []struct {
		name string
		c    clerkCase
		want []impl.MsgMsg
	}{
		{"calls wait, and all have told", fine, all},
		{"nothing", fine.forgetful(), pacts},
		{"a call waits", only(func(c *impl.ClkClerk) { c.Wants = fine.c.Wants[:1] }), all},
		{"a call of the last client waits", only(func(c *impl.ClkClerk) { c.Wants = fine.c.Wants[2:] }), all},
		{"site 0 has told", only(func(c *impl.ClkClerk) { c.Got[0] = fine.c.Got[0] }), all},
		{"site 1 has told", only(func(c *impl.ClkClerk) { c.Got[1] = fine.c.Got[1] }), all},
		{"site 1 has told that it added nothing", only(func(c *impl.ClkClerk) { c.Got[1] = told([]int{0, 0, 0}, 0, 0, 0) }), all},
		{"not up", fine.down(), nil},
	} {
		if says := k.c.tick(); !sameMessages(says, k.want) {
			t.Errorf("%s: ClkTick is %v, not %v", k.name, says, k.want)
		}
	}
}

func TestP41FallsForgetTheRound(t *testing.T) {
	turned, forgot := 0, 0
	for _, c := range clerks(105, 60) {
		for _, up := range []bool{true, false} {
			got := impl.ClkFall(c.p, c.c, up)
			if up == c.c.Up {
				if !sameClerk(got, c.c) {
					t.Fatalf("ClkFall of %v to what it is already is %v", c, got)
				}
				continue
			}
			turned++
			want := c.forgetful().turned(func(c *impl.ClkClerk) { c.Up = up })
			if !sameClerk(got, want.c) || !impl.ClkOk(c.p, got) {
				t.Fatalf("ClkFall of %v, up %v, is %v", c, up, got)
			}
			if !sameClerk(c.forgetful().c, c.c) {
				forgot++
			}
		}
	}
	if turned < 200 || forgot < 100 {
		t.Errorf("only %d turned, and %d had something to forget", turned, forgot)
	}
}

func TestP41ClkFallOfAnAsker(t *testing.T) {
	fine := asker()
	down := impl.ClkFall(fine.p, fine.c, false)
	if !sameClerk(down, fine.down().c) {
		t.Errorf("fallen, it is %v", down)
	}
	if again := impl.ClkFall(fine.p, down, false); !sameClerk(again, down) {
		t.Errorf("fallen once more, it is %v", again)
	}
	if up := impl.ClkFall(fine.p, down, true); !sameClerk(up, fine.forgetful().c) {
		t.Errorf("risen, it is %v", up)
	}
	if same := impl.ClkFall(fine.p, fine.c, true); !sameClerk(same, fine.c) {
		t.Errorf("up it was, and it is %v", same)
	}
}

func checkForSites(t *testing.T, p impl.PlnPlan, says []impl.MsgMsg) {
	t.Helper()
	for _, m := range says {
		if !impl.MsgOk(p, m) || m.To < 0 || m.To >= len(p.Gives) {
			t.Fatalf("%v is said", m)
		}
	}
}

func TestP42WhatTheClerkSaysIsOk(t *testing.T) {
	ticks, pacts := 0, 0
	turn := &turning{state: 106}
	for _, c := range clerks(107, 40) {
		says := c.tick()
		checkForSites(t, c.p, says)
		ticks += len(says)
		for _, m := range c.messages(turn) {
			says := c.hear(m).says
			checkForSites(t, c.p, says)
			pacts += len(says)
		}
	}
	if ticks < 100 || pacts < 100 {
		t.Errorf("only %d and %d were said", ticks, pacts)
	}
}

// The document's example, as far as it is of sites and the clerk.
func TestTheClerkThroughARound(t *testing.T) {
	p := takers()
	p.Clients, p.Gives = 2, []int{10, 10}
	clerk := clerkCase{p, impl.ClkNew(p)}
	sites := []siteCase{{p, impl.SitNew(p), 0}, {p, impl.SitNew(p), 1}}
	sites[0].s, _, _ = sites[0].try(call(0, 1, 0, 8, 0))
	sites[1].s, _, _ = sites[1].try(call(1, 1, 0, 9, 0))
	_, _, says := sites[0].try(call(0, 2, 0, 9, 0))
	clerk.c = clerk.hear(says[0]).c
	ticks := clerk.tick()
	if len(ticks) != 4 {
		t.Fatalf("ClkTick is %v", ticks)
	}
	sites[0].s, _ = sites[0].hear(ticks[2])
	clerk.c = impl.ClkFall(p, impl.ClkFall(p, clerk.c, false), true)
	if len(clerk.tick()) != 2 {
		t.Fatalf("behind the fall ClkTick is %v", clerk.tick())
	}
	_, _, says = sites[0].try(call(0, 2, 0, 9, 0))
	clerk.c = clerk.hear(says[0]).c
	var last clerkAnswer
	for at, m := range clerk.tick()[2:] {
		sites[at].s, says = sites[at].hear(m)
		last = clerk.hear(says[0])
		clerk.c = last.c
	}
	if !sameCalls(last.calls, []impl.PlnCall{call(0, 2, 0, 9, 0)}) || !sameResults(last.results, []impl.ResResult{result(impl.ResDone, 9)}) {
		t.Fatalf("the round does %v, %v", last.calls, last.results)
	}
	for at, m := range last.says {
		sites[at].s, _ = sites[at].hear(m)
		if s := sites[at].s; s.Round != 1 || s.Frozen || !slices.Equal(s.Base, []int{4, 0, 0}) {
			t.Errorf("site %d is %v", at, s)
		}
	}
	if _, r, _ := sites[0].try(call(0, 2, 0, 9, 0)); !sameResult(r, result(impl.ResDone, 9)) || len(last.says) != 2 {
		t.Errorf("the call is answered by %v", r)
	}
}
