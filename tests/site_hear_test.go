package tests

import (
	"slices"
	"testing"

	"loop.example/concord/impl"
)

func TestSitHearByHand(t *testing.T) {
	var n struct{ frozen, agreed, nothing int }
	turn := &turning{state: 72}
	for _, c := range sites(73, 100) {
		for _, m := range c.messages(turn) {
			s, says := c.hear(m)
			want, wantSays := c.hearByHand(m)
			if !sameSite(s, want) || !sameMessages(says, wantSays) {
				t.Fatalf("SitHear of %v by %v is %v, %v, not %v, %v", m, c, s, says, want, wantSays)
			}
			switch {
			case len(says) > 0:
				n.frozen++
			case s.Round > c.s.Round:
				n.agreed++
			default:
				n.nothing++
			}
		}
	}
	if min(n.frozen, n.agreed, n.nothing) < 200 {
		t.Errorf("too few of one kind: %+v", n)
	}
}

func TestP31AFrozenSiteWaits(t *testing.T) {
	agreed := 0
	turn := &turning{state: 74}
	for _, c := range sites(75, 60) {
		c = c.frozen(true)
		for _, one := range c.calls(turn) {
			if s, _, _ := c.try(one); !sameSite(s, c.s) {
				t.Fatalf("SitTry of %v turns a frozen site %v to %v", one, c, s)
			}
		}
		for _, up := range []bool{true, false} {
			if s := impl.SitFall(c.p, c.s, c.at, up); !s.Frozen {
				t.Fatalf("SitFall of %v is %v", c, s)
			}
		}
		for _, m := range c.messages(turn) {
			s, _ := c.hear(m)
			later := c.s.Up && m.Kind == impl.MsgPact && m.To == c.at && m.Round > c.s.Round
			if later && (s.Frozen || s.Round != m.Round) || !later && !sameSite(s, c.s) {
				t.Fatalf("SitHear of %v turns a frozen site %v to %v", m, c, s)
			}
			if later {
				agreed++
			}
		}
	}
	if agreed < 100 {
		t.Errorf("only %d of a later round", agreed)
	}
}

func TestP32SitHearGoesForward(t *testing.T) {
	turn := &turning{state: 76}
	for _, c := range sites(77, 60) {
		for _, m := range c.messages(turn) {
			s, says := c.hear(m)
			if !impl.SitOk(c.p, s, c.at) || s.Round < c.s.Round || s.Up != c.s.Up {
				t.Fatalf("SitHear of %v by %v leaves %v", m, c, s)
			}
			for client, one := range s.Done {
				if one.Seq < c.s.Done[client].Seq {
					t.Fatalf("SitHear of %v by %v leaves less done: %v", m, c, s)
				}
			}
			if m.Kind == impl.MsgPact && m.Round <= c.s.Round && (!sameSite(s, c.s) || len(says) != 0) {
				t.Fatalf("SitHear of %v by %v is %v, %v", m, c, s, says)
			}
		}
	}
}

func TestP32HeardTwiceIsAsOnce(t *testing.T) {
	turn := &turning{state: 78}
	for _, c := range sites(79, 60) {
		for _, m := range c.messages(turn) {
			s, says := c.hear(m)
			then, more := c.with(s).hear(m)
			if !sameSite(then, s) {
				t.Fatalf("SitHear of %v is %v, and once more %v", m, s, then)
			}
			if m.Kind == impl.MsgFreeze && !sameMessages(more, says) || m.Kind == impl.MsgPact && len(more) != 0 {
				t.Fatalf("by SitHear of %v %v is said, and once more %v", m, says, more)
			}
		}
	}
}

func TestP33FreezingGives(t *testing.T) {
	for _, c := range sites(80, 100) {
		c = c.up(true)
		s, says := c.hear(freezes(c.at, c.s.Round))
		if !sameSite(s, c.frozen(true).s) {
			t.Fatalf("%v is frozen, and is %v", c, s)
		}
		if len(says) != 1 || !slices.Equal(says[0].Vals, c.s.Added) || len(says[0].Seqs) != c.p.Clients {
			t.Fatalf("%v is frozen, and says %v", c, says)
		}
		want := gives(c.at, c.s.Round, c.s.Added)
		for _, one := range c.s.Done {
			want.Seqs = append(want.Seqs, one.Seq)
		}
		if !sameMessage(says[0], want) {
			t.Fatalf("%v is frozen, and says %v", c, says[0])
		}
		down := c.with(impl.SitFall(c.p, s, c.at, false))
		risen := c.with(impl.SitFall(c.p, down.s, c.at, true))
		for _, again := range []siteCase{c.with(s), risen} {
			then, more := again.hear(freezes(c.at, c.s.Round))
			if !sameSite(then, s) || !sameMessages(more, says) {
				t.Fatalf("once more SitHear is %v, %v, and was %v, %v", then, more, s, says)
			}
		}
		if then, more := down.hear(freezes(c.at, c.s.Round)); !sameSite(then, down.s) || len(more) != 0 {
			t.Fatalf("not up, SitHear is %v, %v", then, more)
		}
	}
}

// A frozen site that is tried with the next call says what it wants; what it gives stays the same.
func TestP33WhatIsGivenIsTheSameBehindTries(t *testing.T) {
	turn := &turning{state: 81}
	for _, c := range sites(82, 50) {
		m := freezes(c.at, c.s.Round)
		s, says := c.up(true).hear(m)
		for _, one := range c.calls(turn) {
			s, _, _ = c.with(s).try(one)
			if _, more := c.with(s).hear(m); !sameMessages(more, says) {
				t.Fatalf("behind %v %v is given, and was %v", one, more, says)
			}
		}
	}
}

func TestP42WhatSitesSayIsOk(t *testing.T) {
	said := 0
	turn := &turning{state: 83}
	for _, c := range sites(84, 50) {
		for _, m := range c.messages(turn) {
			_, says := c.hear(m)
			for _, one := range says {
				said++
				if !impl.MsgOk(c.p, one) || one.To != impl.MsgClerk {
					t.Fatalf("%v is said", one)
				}
			}
		}
	}
	if said < 100 {
		t.Errorf("only %d were said", said)
	}
}

// hearCase is a message at the site of taker: what turns, and what is given.
type hearCase struct {
	name  string
	m     impl.MsgMsg
	turn  func(s *impl.SitSite)
	gives []impl.MsgMsg
}

func checkHears(t *testing.T, c siteCase, cases []hearCase) {
	t.Helper()
	for _, k := range cases {
		want := copyOfSite(c.s)
		if k.turn != nil {
			k.turn(&want)
		}
		s, says := c.hear(k.m)
		if !sameSite(s, want) || !sameMessages(says, k.gives) {
			t.Errorf("%s: SitHear is %v, %v, not %v, %v", k.name, s, says, want, k.gives)
		}
	}
}

func TestP31P32P33SitHearOfATaker(t *testing.T) {
	given := []impl.MsgMsg{gives(0, 4, []int{-3, 0, 0}, 2, 1, 0)}
	frozen := func(s *impl.SitSite) { s.Frozen = true }
	vals := []int{9, 8, 7}
	more := []impl.PlnDone{done(3, impl.ResOver), done(9, impl.ResDone, 6), done(1, impl.ResDone, 5)}
	agreed := func(round int) func(s *impl.SitSite) {
		return func(s *impl.SitSite) {
			s.Frozen, s.Round, s.Base, s.Added = false, round, vals, []int{0, 0, 0}
			s.Done[0], s.Done[2] = more[0], more[2]
		}
	}
	const last = impl.PlnMaxRound
	for _, c := range []siteCase{taker(), taker().frozen(true)} {
		checkHears(t, c, []hearCase{
			{"freeze of its round", freezes(0, 4), frozen, given},
			{"freeze of an earlier one", freezes(0, 3), nil, nil},
			{"freeze of a later one", freezes(0, 5), nil, nil},
			{"freeze of the first one", freezes(0, 0), nil, nil},
			{"freeze of the last one", freezes(0, last), nil, nil},
			{"freeze of another site", freezes(1, 4), nil, nil},
			{"pact of its round", agrees(0, 4, vals, more...), nil, nil},
			{"pact of an earlier one", agrees(0, 3, vals, more...), nil, nil},
			{"pact of the first one", agrees(0, 0, vals, more...), nil, nil},
			{"pact of the next one", agrees(0, 5, vals, more...), agreed(5), nil},
			{"pact of a later one", agrees(0, 7, vals, more...), agreed(7), nil},
			{"pact of the last one", agrees(0, last, vals, more...), agreed(last), nil},
			{"pact of another site", agrees(1, 5, vals, more...), nil, nil},
			{"want, for the clerk", wants(call(0, 3, 0, 1, 1)), nil, nil},
			{"give, for the clerk", gives(0, 4, []int{1, 0, 0}, 0, 0, 0), nil, nil},
			{"give of another site, for the clerk", gives(1, 4, []int{1, 0, 0}, 0, 0, 0), nil, nil},
		})
		checkHears(t, c.up(false), []hearCase{
			{"not up: freeze", freezes(0, 4), nil, nil},
			{"not up: pact", agrees(0, 5, vals, more...), nil, nil},
		})
	}
}

// Done with a smaller, the same and a greater Seq, for the site's own clients and another one.
func TestP32SitHearOfWhatWasDone(t *testing.T) {
	other := done(0, 0)
	for _, k := range []struct {
		name string
		told []impl.PlnDone
		want []impl.PlnDone
	}{
		{"none", []impl.PlnDone{other, other, other}, []impl.PlnDone{done(2, impl.ResDone, 3), done(1, impl.ResStopped), {}}},
		{"a smaller one", []impl.PlnDone{done(1, impl.ResOver), other, other}, []impl.PlnDone{done(2, impl.ResDone, 3), done(1, impl.ResStopped), {}}},
		{"the same one, with another result", []impl.PlnDone{done(2, impl.ResOver), other, other}, []impl.PlnDone{done(2, impl.ResDone, 3), done(1, impl.ResStopped), {}}},
		{"a greater one", []impl.PlnDone{done(3, impl.ResOver), other, other}, []impl.PlnDone{done(3, impl.ResOver), done(1, impl.ResStopped), {}}},
		{"the greatest one", []impl.PlnDone{done(impl.PlnMaxSeq, impl.ResDone, 1, 2), other, other}, []impl.PlnDone{done(impl.PlnMaxSeq, impl.ResDone, 1, 2), done(1, impl.ResStopped), {}}},
		{"a first one", []impl.PlnDone{other, other, done(1, impl.ResDone)}, []impl.PlnDone{done(2, impl.ResDone, 3), done(1, impl.ResStopped), done(1, impl.ResDone)}},
		{"of a client of another site", []impl.PlnDone{other, done(2, impl.ResDone), other}, []impl.PlnDone{done(2, impl.ResDone, 3), done(1, impl.ResStopped), {}}},
		{"a smaller and a greater one", []impl.PlnDone{done(1, impl.ResOver), done(5, impl.ResDone), done(4, impl.ResDone, 9)}, []impl.PlnDone{done(2, impl.ResDone, 3), done(1, impl.ResStopped), done(4, impl.ResDone, 9)}},
	} {
		s, says := taker().hear(agrees(0, 5, []int{1, 2, 3}, k.told...))
		if !slices.EqualFunc(s.Done, k.want, sameDone) || len(says) != 0 {
			t.Errorf("%s: behind the pact %v is done, not %v; %v is said", k.name, s.Done, k.want, says)
		}
	}
	c := taker()
	c.at, c.s.Added = 1, []int{0, 0, 0}
	told := []impl.PlnDone{done(8, impl.ResOver), done(8, impl.ResOver), done(8, impl.ResOver)}
	want := []impl.PlnDone{done(2, impl.ResDone, 3), done(8, impl.ResOver), {}}
	if s, _ := c.hear(agrees(1, 5, []int{1, 2, 3}, told...)); !slices.EqualFunc(s.Done, want, sameDone) {
		t.Errorf("at the last site %v is done, not %v", s.Done, want)
	}
}

// At the last round nothing comes any more but freezing, and at the first one no pact is an earlier one.
func TestP31P33SitHearAtTheEndsOfRounds(t *testing.T) {
	c := taker()
	vals, none := []int{1, 2, 3}, make([]impl.PlnDone, 3)
	c.s.Round = impl.PlnMaxRound
	checkHears(t, c, []hearCase{
		{"freeze of the last round", freezes(0, impl.PlnMaxRound), func(s *impl.SitSite) { s.Frozen = true }, []impl.MsgMsg{gives(0, impl.PlnMaxRound, []int{-3, 0, 0}, 2, 1, 0)}},
		{"freeze of the one ahead of it", freezes(0, impl.PlnMaxRound-1), nil, nil},
		{"pact of the last round", agrees(0, impl.PlnMaxRound, vals, none...), nil, nil},
	})
	c.s.Round = 0
	checkHears(t, c, []hearCase{
		{"freeze of the first round", freezes(0, 0), func(s *impl.SitSite) { s.Frozen = true }, []impl.MsgMsg{gives(0, 0, []int{-3, 0, 0}, 2, 1, 0)}},
		{"freeze of the second one", freezes(0, 1), nil, nil},
		{"pact of the first round", agrees(0, 0, vals, none...), nil, nil},
		{"pact of the second one", agrees(0, 1, vals, none...), func(s *impl.SitSite) { s.Round, s.Base, s.Added = 1, vals, []int{0, 0, 0} }, nil},
	})
}

// A site through a round: it takes, is frozen, falls and rises, gives once more, and goes on from what was agreed upon.
func TestASiteThroughARound(t *testing.T) {
	p := takers()
	c := siteCase{p, impl.SitNew(p), 0}
	var r impl.ResResult
	var says []impl.MsgMsg
	c.s, r, _ = c.try(call(0, 1, 0, 8, 0))
	if !sameResult(r, result(impl.ResDone, 8)) {
		t.Fatalf("the first call is %v", r)
	}
	c.s, _, says = c.try(call(0, 2, 0, 9, 0))
	if !sameMessages(says, []impl.MsgMsg{wants(call(0, 2, 0, 9, 0))}) {
		t.Fatalf("the second call says %v", says)
	}
	c.s, _ = c.hear(freezes(0, 0))
	c.s = impl.SitFall(p, c.s, 0, false)
	c.s = impl.SitFall(p, c.s, 0, true)
	c.s, says = c.hear(freezes(0, 0))
	if !sameMessages(says, []impl.MsgMsg{gives(0, 0, []int{-8, 0, 0}, 1, 0, 0)}) {
		t.Fatalf("given is %v", says)
	}
	c.s, says = c.hear(agrees(0, 1, []int{13, 0, 0}, done(2, impl.ResDone, 9), impl.PlnDone{}, impl.PlnDone{}))
	if len(says) != 0 || c.s.Frozen || !slices.Equal(c.s.Base, []int{13, 0, 0}) || !slices.Equal(c.s.Added, []int{0, 0, 0}) {
		t.Fatalf("behind the round the site is %v", c.s)
	}
	if _, r, says = c.try(call(0, 2, 0, 9, 0)); !sameResult(r, result(impl.ResDone, 9)) || len(says) != 0 {
		t.Fatalf("the second call is %v, and %v is said", r, says)
	}
	if c.s, r, _ = c.try(call(2, 1, 0, 5, 0)); !sameResult(r, result(impl.ResDone, 5)) || c.s.Added[0] != -5 {
		t.Fatalf("the call of another client is %v", r)
	}
}
