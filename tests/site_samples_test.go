package tests

import (
	"slices"

	"loop.example/concord/impl"
)

func wants(c impl.PlnCall) impl.MsgMsg {
	return impl.MsgMsg{Kind: impl.MsgWant, To: impl.MsgClerk, Call: c}
}

func freezes(to, round int) impl.MsgMsg {
	return impl.MsgMsg{Kind: impl.MsgFreeze, To: to, Round: round}
}

func gives(from, round int, vals []int, seqs ...int) impl.MsgMsg {
	return impl.MsgMsg{Kind: impl.MsgGive, To: impl.MsgClerk, From: from, Round: round, Vals: vals, Seqs: seqs}
}

func agrees(to, round int, vals []int, list ...impl.PlnDone) impl.MsgMsg {
	return impl.MsgMsg{Kind: impl.MsgPact, To: to, Round: round, Vals: vals, Done: list}
}

func sameMessage(a, b impl.MsgMsg) bool {
	return a.Kind == b.Kind && a.To == b.To && a.From == b.From && a.Round == b.Round && sameCall(a.Call, b.Call) &&
		slices.Equal(a.Vals, b.Vals) && slices.Equal(a.Seqs, b.Seqs) && slices.EqualFunc(a.Done, b.Done, sameDone)
}

func sameMessages(a, b []impl.MsgMsg) bool {
	return slices.EqualFunc(a, b, sameMessage)
}

func sameSite(a, b impl.SitSite) bool {
	return a.Up == b.Up && a.Frozen == b.Frozen && a.Round == b.Round && slices.Equal(a.Base, b.Base) &&
		slices.Equal(a.Added, b.Added) && slices.EqualFunc(a.Done, b.Done, sameDone)
}

func isNoSite(s impl.SitSite) bool {
	return sameSite(s, impl.SitSite{})
}

func copyOfSite(s impl.SitSite) impl.SitSite {
	s.Base, s.Added, s.Done = slices.Clone(s.Base), slices.Clone(s.Added), slices.Clone(s.Done)
	for i := range s.Done {
		s.Done[i].Res.Tells = slices.Clone(s.Done[i].Res.Tells)
	}
	return s
}

// siteCase is a site at its place.
type siteCase struct {
	p  impl.PlnPlan
	s  impl.SitSite
	at int
}

func (c siteCase) try(call impl.PlnCall) (impl.SitSite, impl.ResResult, []impl.MsgMsg) {
	return impl.SitTry(c.p, c.s, c.at, call)
}

func (c siteCase) hear(m impl.MsgMsg) (impl.SitSite, []impl.MsgMsg) {
	return impl.SitHear(c.p, c.s, c.at, m)
}

func (c siteCase) with(s impl.SitSite) siteCase {
	c.s = s
	return c
}

func (c siteCase) up(up bool) siteCase {
	c.s.Up = up
	return c
}

func (c siteCase) frozen(frozen bool) siteCase {
	c.s.Frozen = frozen
	return c
}

// home is without PlnHome, of a client that there is.
func (c siteCase) home(client int) int {
	return client % len(c.p.Gives)
}

// alone is what LocTry is asked by a site.
func (c siteCase) alone(call impl.PlnCall) localCase {
	return localCase{c.p.Acts, treaty(c.s.Base, c.p.Gives...), c.at, c.s.Added, call.Act, call.Args}
}

// takers is a plan with two sites and three clients, of which 0 and 2 are at home at site 0; act 0 takes from pot 0 if there is enough, act 1 adds to it, act 2 tells of pot 2, which is pinned by that, act 3 stops.
func takers() impl.PlnPlan {
	minusArg, arg := form(0, 0, 0, -1, 0, 0), form(0, 0, 0, 1, 0, 0)
	return impl.PlnPlan{
		Clients: 3,
		Acts: [][]impl.ActLine{
			{asking(2, form(1, 0, 0, -1, 0, 0)), adding(0, minusArg), telling(arg)},
			{adding(0, arg)},
			{telling(pot(2)), adding(2, number(1))},
			{stopping()},
		},
		Gives: []int{10, 6},
		Start: []int{30, 0, 0},
	}
}

// taker is site 0 of takers, in round 4, with 3 taken; client 0 has called twice, client 1, of the other site, once, client 2 not yet.
func taker() siteCase {
	s := impl.SitSite{Up: true, Round: 4, Base: []int{25, 1, 2}, Added: []int{-3, 0, 0}}
	s.Done = []impl.PlnDone{done(2, impl.ResDone, 3), done(1, impl.ResStopped), {}}
	return siteCase{takers(), s, 0}
}

// someDone is what may have been done for a client, now and then at the ends of Seq.
func (t *turning) someDone() impl.PlnDone {
	switch t.next(4) {
	case -4, -3:
		return impl.PlnDone{}
	case -2:
		return done(impl.PlnMaxSeq, impl.ResStopped)
	case -1:
		return done(impl.PlnMaxSeq-1, impl.ResOver)
	case 0:
		return done(1, impl.ResDone)
	}
	return done(4+t.next(2), impl.ResDone, t.next(50), t.next(50))
}

func (t *turning) someDones(clients int) []impl.PlnDone {
	var list []impl.PlnDone
	for range clients {
		list = append(list, t.someDone())
	}
	return list
}

// someRound is in the middle, or at one of the ends.
func (t *turning) someRound() int {
	return []int{0, 1, impl.PlnMaxRound, impl.PlnMaxRound - 1, 5, 6, 7, 6, 5}[t.next(4)+4]
}

// sites are ok: of loose acts, up and not frozen more often than not.
func sites(state uint64, many int) []siteCase {
	turn := &turning{state: state}
	var list []siteCase
	for range many {
		p := impl.PlnPlan{Acts: turn.looseCat()}
		parts, pins := partsByHand(p.Acts), pinsByHand(p.Acts)
		for range 5 {
			tr := turn.treaty(impl.PlnMaxStart)
			p.Clients, p.Gives, p.Start = 1+(turn.next(9)+9)%impl.PlnMaxClients, tr.Gives, tr.Base
			at := (turn.next(9) + 9) % len(p.Gives)
			s := impl.SitSite{Up: turn.next(5) < 5, Frozen: turn.next(5) > 3, Round: turn.someRound(), Base: turn.nearBase()}
			s.Added = turn.keeping(treaty(s.Base, p.Gives...), parts, pins, at)
			s.Done = turn.someDones(p.Clients)
			list = append(list, siteCase{p, s, at})
		}
	}
	return list
}

// calls are ok: of each client one earlier than its last one, that, the next one, and two that skip numbers.
func (c siteCase) calls(turn *turning) []impl.PlnCall {
	var list []impl.PlnCall
	for client := range c.p.Clients {
		for _, more := range []int{-1, 0, 1, 2, 3} {
			one := call(client, c.s.Done[client].Seq+more, (turn.next(9)+9)%len(c.p.Acts), turn.args()...)
			if one.Seq >= 1 && one.Seq <= impl.PlnMaxSeq {
				list = append(list, one)
			}
		}
	}
	return list
}

// messages are ok: all kinds, for this site, each other one and the clerk, of its Round and others.
func (c siteCase) messages(turn *turning) []impl.MsgMsg {
	list := []impl.MsgMsg{wants(call(0, 1, 0, turn.args()...))}
	for _, round := range []int{0, c.s.Round - 1, c.s.Round, c.s.Round + 1, impl.PlnMaxRound} {
		if round < 0 || round > impl.PlnMaxRound {
			continue
		}
		list = append(list, gives(c.at, round, []int{0, 1, 0}, make([]int, c.p.Clients)...))
		for to := range c.p.Gives {
			list = append(list, freezes(to, round), agrees(to, round, turn.nearBase(), turn.someDones(c.p.Clients)...))
		}
	}
	return list
}

// tryByHand asks in the document's order what SitTry asks, of what is ok.
func (c siteCase) tryByHand(call impl.PlnCall) (impl.SitSite, impl.ResResult, []impl.MsgMsg) {
	s, last := copyOfSite(c.s), c.s.Done[call.Client]
	if !s.Up || c.home(call.Client) != c.at || call.Seq != last.Seq && call.Seq != last.Seq+1 {
		return s, impl.ResResult{}, nil
	}
	if call.Seq == last.Seq {
		return s, last.Res, nil
	}
	if r, added, could := c.alone(call).byHand(); could && !s.Frozen {
		s.Added, s.Done[call.Client] = added, impl.PlnDone{Seq: call.Seq, Res: r}
		return s, r, nil
	}
	return s, impl.ResResult{}, []impl.MsgMsg{wants(call)}
}

// hearByHand is of what is ok, too.
func (c siteCase) hearByHand(m impl.MsgMsg) (impl.SitSite, []impl.MsgMsg) {
	s := copyOfSite(c.s)
	if !s.Up || m.To != c.at {
		return s, nil
	}
	if m.Kind == impl.MsgFreeze && m.Round == s.Round {
		var seqs []int
		for _, one := range s.Done {
			seqs = append(seqs, one.Seq)
		}
		s.Frozen = true
		return s, []impl.MsgMsg{gives(c.at, s.Round, s.Added, seqs...)}
	}
	if m.Kind == impl.MsgPact && m.Round > s.Round {
		s.Frozen, s.Round, s.Base, s.Added = false, m.Round, m.Vals, []int{0, 0, 0}
		for client, one := range m.Done {
			if c.home(client) == c.at && one.Seq > s.Done[client].Seq {
				s.Done[client] = one
			}
		}
	}
	return s, nil
}

// wrongSiteCases have one thing that is not ok, beside the plans; the place of the others stays.
func wrongSiteCases() []siteCase {
	fine := taker()
	list := []siteCase{fine.with(impl.SitSite{}), fine.with(impl.SitSite{Up: true})}
	for _, at := range wrongSites(len(fine.p.Gives)) {
		c := fine
		c.at = at
		list = append(list, c)
	}
	turned := func(turn func(s *impl.SitSite)) {
		s := copyOfSite(fine.s)
		turn(&s)
		list = append(list, fine.with(s))
	}
	for _, round := range wrongSites(impl.PlnMaxRound + 1) {
		turned(func(s *impl.SitSite) { s.Round = round })
	}
	for _, base := range wrongVals() {
		turned(func(s *impl.SitSite) { s.Base = base })
	}
	for _, added := range append(wrongAdded(), []int{11, 0, 0}, []int{-11, 0, 0}, []int{0, 11, 0}, []int{0, -11, 0}, []int{0, 0, 1}, []int{0, 0, -1}, []int{3, 3, 10}) {
		turned(func(s *impl.SitSite) { s.Added = added })
	}
	for _, wrong := range [][]impl.PlnDone{nil, {}, fine.s.Done[:2], append(slices.Clone(fine.s.Done), impl.PlnDone{})} {
		turned(func(s *impl.SitSite) { s.Done = wrong })
	}
	for _, one := range wrongDones() {
		for client := range fine.p.Clients {
			turned(func(s *impl.SitSite) { s.Done[client] = one })
		}
	}
	return list
}
