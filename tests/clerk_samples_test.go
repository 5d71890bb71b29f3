package tests

import (
	"slices"

	"loop.example/concord/impl"
)

func told(added []int, seqs ...int) impl.ClkGot {
	return impl.ClkGot{Has: true, Added: added, Seqs: seqs}
}

func sameGot(a, b impl.ClkGot) bool {
	return a.Has == b.Has && slices.Equal(a.Added, b.Added) && slices.Equal(a.Seqs, b.Seqs)
}

func sameClerk(a, b impl.ClkClerk) bool {
	return a.Up == b.Up && a.Round == b.Round && slices.Equal(a.Base, b.Base) && slices.EqualFunc(a.Done, b.Done, sameDone) &&
		sameCalls(a.Wants, b.Wants) && slices.EqualFunc(a.Got, b.Got, sameGot)
}

func sameCalls(a, b []impl.PlnCall) bool {
	return slices.EqualFunc(a, b, sameCall)
}

func sameResults(a, b []impl.ResResult) bool {
	return slices.EqualFunc(a, b, sameResult)
}

func isNoClerk(c impl.ClkClerk) bool {
	return sameClerk(c, impl.ClkClerk{})
}

func copyOfClerk(c impl.ClkClerk) impl.ClkClerk {
	c.Base, c.Done, c.Wants, c.Got = slices.Clone(c.Base), slices.Clone(c.Done), slices.Clone(c.Wants), slices.Clone(c.Got)
	for i := range c.Done {
		c.Done[i].Res.Tells = slices.Clone(c.Done[i].Res.Tells)
	}
	for i := range c.Wants {
		c.Wants[i].Args = slices.Clone(c.Wants[i].Args)
	}
	for i := range c.Got {
		c.Got[i].Added, c.Got[i].Seqs = slices.Clone(c.Got[i].Added), slices.Clone(c.Got[i].Seqs)
	}
	return c
}

// clerkCase is a clerk and its plan.
type clerkCase struct {
	p impl.PlnPlan
	c impl.ClkClerk
}

// clerkAnswer is all that ClkHear answers.
type clerkAnswer struct {
	c       impl.ClkClerk
	says    []impl.MsgMsg
	calls   []impl.PlnCall
	results []impl.ResResult
}

func sameAnswer(a, b clerkAnswer) bool {
	return sameClerk(a.c, b.c) && sameMessages(a.says, b.says) && sameCalls(a.calls, b.calls) && sameResults(a.results, b.results)
}

func (c clerkCase) hear(m impl.MsgMsg) clerkAnswer {
	then, says, calls, results := impl.ClkHear(c.p, c.c, m)
	return clerkAnswer{then, says, calls, results}
}

func (c clerkCase) fold() clerkAnswer {
	then, calls, results := impl.ClkFold(c.p, c.c)
	return clerkAnswer{c: then, calls: calls, results: results}
}

func (c clerkCase) tick() []impl.MsgMsg {
	return impl.ClkTick(c.p, c.c)
}

func (c clerkCase) with(clerk impl.ClkClerk) clerkCase {
	c.c = clerk
	return c
}

// turned is a case of its own, with one thing turned.
func (c clerkCase) turned(turn func(c *impl.ClkClerk)) clerkCase {
	c.c = copyOfClerk(c.c)
	turn(&c.c)
	return c
}

// forgetful has nothing that waits, and nothing told.
func (c clerkCase) forgetful() clerkCase {
	return c.turned(func(c *impl.ClkClerk) { c.Wants, c.Got = nil, make([]impl.ClkGot, len(c.Got)) })
}

// down is a clerk that has fallen.
func (c clerkCase) down() clerkCase {
	return c.forgetful().turned(func(c *impl.ClkClerk) { c.Up = false })
}

func (c clerkCase) home(client int) int {
	return client % len(c.p.Gives)
}

// asker is the clerk of takers, in round 4, with a call of each client and both sites told; what a site has told of another one's clients is wrong, or late.
func asker() clerkCase {
	c := impl.ClkClerk{Up: true, Round: 4, Base: []int{25, 1, 2}}
	c.Done = []impl.PlnDone{done(1, impl.ResDone, 3), done(1, impl.ResStopped), {}}
	c.Wants = []impl.PlnCall{call(0, 3, 2, 0, 0), call(1, 2, 0, 9, 0), call(2, 1, 2, 0, 0)}
	c.Got = []impl.ClkGot{told([]int{-3, 0, 0}, 2, 0, 0), told([]int{2, 1, 0}, 1, 1, 5)}
	return clerkCase{takers(), c}
}

// fitting is a clerk to which nothing but its plan may be held: as many of all as the plan asks for, as far as it is few, and nothing waits or is told.
func fitting(p impl.PlnPlan) impl.ClkClerk {
	clients := min(max(0, p.Clients), impl.PlnMaxClients+1)
	return impl.ClkClerk{Up: true, Base: []int{1, 2, 3}, Done: make([]impl.PlnDone, clients), Got: make([]impl.ClkGot, len(p.Gives))}
}

// clerks are ok: of loose acts, up more often than not, with all sites told as often as not.
func clerks(state uint64, many int) []clerkCase {
	turn := &turning{state: state}
	var list []clerkCase
	for range many {
		p := impl.PlnPlan{Acts: turn.looseCat()}
		parts, pins := partsByHand(p.Acts), pinsByHand(p.Acts)
		for range 5 {
			tr := turn.treaty(impl.PlnMaxStart)
			p.Clients, p.Gives, p.Start = 1+(turn.next(9)+9)%impl.PlnMaxClients, tr.Gives, tr.Base
			c := impl.ClkClerk{Up: turn.next(5) < 5, Round: turn.someRound(), Base: turn.nearBase(), Done: turn.someDones(p.Clients)}
			c.Got = make([]impl.ClkGot, len(p.Gives))
			if c.Up {
				turn.fill(p, &c, parts, pins)
			}
			list = append(list, clerkCase{p, c})
		}
	}
	return list
}

// fill lets sites tell, and calls wait: mostly the next ones.
func (t *turning) fill(p impl.PlnPlan, c *impl.ClkClerk, parts [][]int, pins []bool) {
	all := t.next(1) > -1
	for site := range p.Gives {
		if all || t.next(1) > 0 {
			added := t.keeping(treaty(c.Base, p.Gives...), parts, pins, site)
			c.Got[site] = told(added, t.someSeqs(p.Clients)...)
		}
	}
	for client := range p.Clients {
		seq := 4 + t.next(3)
		if home := c.Got[client%len(p.Gives)]; home.Has && t.next(3) < 3 {
			seq = home.Seqs[client] + 1 + max(-2, t.next(3))*max(0, t.next(1))
		}
		if t.next(2) > -2 && seq >= 1 && seq <= impl.PlnMaxSeq {
			c.Wants = append(c.Wants, call(client, seq, (t.next(9)+9)%len(p.Acts), t.args()...))
		}
	}
}

func (t *turning) someSeqs(clients int) []int {
	var seqs []int
	for range clients {
		seqs = append(seqs, t.someDone().Seq)
	}
	return seqs
}

// messages are ok: calls around the one that waits, what sites may tell and what they may not, of the Round and others, and what is for sites.
func (c clerkCase) messages(turn *turning) []impl.MsgMsg {
	var list []impl.MsgMsg
	for client := range c.p.Clients {
		seq := 5
		for _, one := range c.c.Wants {
			if one.Client == client {
				seq = one.Seq
			}
		}
		for more := -1; more <= 1; more++ {
			if seq+more >= 1 && seq+more <= impl.PlnMaxSeq {
				list = append(list, wants(call(client, seq+more, (turn.next(9)+9)%len(c.p.Acts), turn.args()...)))
			}
		}
	}
	for site, give := range c.p.Gives {
		for _, round := range []int{0, c.c.Round - 1, c.c.Round, c.c.Round + 1, impl.PlnMaxRound} {
			if round < 0 || round > impl.PlnMaxRound {
				continue
			}
			for _, vals := range c.vals(turn, site, give) {
				list = append(list, gives(site, round, vals, turn.someSeqs(c.p.Clients)...))
			}
			list = append(list, freezes(site, round), agrees(site, round, turn.nearBase(), turn.someDones(c.p.Clients)...))
		}
	}
	return list
}

// vals are something that a site may tell, and something that is turned in one pot, maybe by one too much or where it is pinned.
func (c clerkCase) vals(turn *turning, site, give int) [][]int {
	fine := turn.keeping(treaty(c.c.Base, c.p.Gives...), partsByHand(c.p.Acts), pinsByHand(c.p.Acts), site)
	other := slices.Clone(fine)
	other[1+turn.next(1)] = []int{give + 1, -give - 1, 1}[1+turn.next(1)]
	return [][]int{fine, other}
}

// mayTell is by hand, too.
func (c clerkCase) mayTell(site int, added []int) bool {
	return keepsByHand(treaty(c.c.Base, c.p.Gives...), partsByHand(c.p.Acts), site, added) && !addsToAPin(pinsByHand(c.p.Acts), added)
}

// ready is by hand, of a clerk that is ok.
func (c clerkCase) ready() bool {
	return !slices.ContainsFunc(c.c.Got, func(g impl.ClkGot) bool { return !g.Has })
}

// pots is Base and all that was told, together.
func (c clerkCase) pots() []int {
	pots := slices.Clone(c.c.Base)
	for _, g := range c.c.Got {
		pots = sumByHand(pots, g.Added)
	}
	return pots
}

// isNext is whether a call is the one behind what its client's home has told.
func (c clerkCase) isNext(one impl.PlnCall) bool {
	return one.Seq == c.c.Got[c.home(one.Client)].Seqs[one.Client]+1
}

// foldByHand asks in the document's order what ClkFold asks, of what is ok.
func (c clerkCase) foldByHand() clerkAnswer {
	answer := clerkAnswer{c: copyOfClerk(c.c)}
	pots := c.pots()
	if !c.ready() || c.c.Round == impl.PlnMaxRound || !allIn(impl.ValMax, pots) {
		return answer
	}
	for _, one := range c.c.Wants {
		if c.isNext(one) {
			var r impl.ResResult
			r, pots = doneByHand(c.p.Acts[one.Act], pots, one.Args)
			answer.calls, answer.results = append(answer.calls, one), append(answer.results, r)
			answer.c.Done[one.Client] = impl.PlnDone{Seq: one.Seq, Res: r}
		}
	}
	answer.c.Round, answer.c.Base, answer.c.Wants, answer.c.Got = c.c.Round+1, pots, nil, make([]impl.ClkGot, len(c.c.Got))
	return answer
}

// hearByHand is of what is ok, too.
func (c clerkCase) hearByHand(m impl.MsgMsg) clerkAnswer {
	same := clerkAnswer{c: copyOfClerk(c.c)}
	if !c.c.Up || m.To != impl.MsgClerk {
		return same
	}
	if m.Kind == impl.MsgWant {
		same.c.Wants = wantsByHand(c.c.Wants, m.Call)
		return same
	}
	if m.Round != c.c.Round || !c.mayTell(m.From, m.Vals) {
		return same
	}
	answer := c.turned(func(c *impl.ClkClerk) { c.Got[m.From] = told(m.Vals, m.Seqs...) }).foldByHand()
	if answer.c.Round > c.c.Round {
		answer.says = c.with(answer.c).pacts()
	}
	return answer
}

// wantsByHand goes by the clients, of whom each has one call at most.
func wantsByHand(waiting []impl.PlnCall, one impl.PlnCall) []impl.PlnCall {
	var list []impl.PlnCall
	for client := range impl.PlnMaxClients {
		var best []impl.PlnCall
		for _, other := range append(slices.Clone(waiting), one) {
			if other.Client == client && (len(best) == 0 || other.Seq >= best[0].Seq) {
				best = []impl.PlnCall{other}
			}
		}
		list = append(list, best...)
	}
	return list
}

// pacts is what a clerk agrees upon, to each site.
func (c clerkCase) pacts() []impl.MsgMsg {
	var list []impl.MsgMsg
	for site := range c.p.Gives {
		list = append(list, agrees(site, c.c.Round, c.c.Base, c.c.Done...))
	}
	return list
}

// wrongClerkCases have one thing that is not ok, beside the plans.
func wrongClerkCases() []clerkCase {
	fine := asker()
	list := []clerkCase{fine.with(impl.ClkClerk{}), fine.with(impl.ClkClerk{Up: true})}
	for _, c := range []clerkCase{fine, fine.forgetful(), fine.down()} {
		list = append(list, wrongInRounds(c)...)
	}
	for _, wrong := range wrongWants(fine) {
		for _, c := range []clerkCase{fine, fine.forgetful()} {
			list = append(list, c.turned(func(c *impl.ClkClerk) { c.Wants = wrong }))
		}
	}
	for site := range fine.p.Gives {
		for _, wrong := range wrongGots(fine.p, site) {
			for _, c := range []clerkCase{fine, fine.forgetful()} {
				list = append(list, c.turned(func(c *impl.ClkClerk) { c.Got[site] = wrong }))
			}
		}
		list = append(list, fine.down().turned(func(c *impl.ClkClerk) { c.Got[site] = fine.c.Got[site] }))
	}
	return append(list,
		fine.turned(func(c *impl.ClkClerk) { c.Up = false }),
		fine.down().turned(func(c *impl.ClkClerk) { c.Wants = fine.c.Wants }),
		fine.down().turned(func(c *impl.ClkClerk) { c.Wants = fine.c.Wants[2:] }),
		fine.down().turned(func(c *impl.ClkClerk) { c.Got = fine.c.Got }))
}

// wrongInRounds are a clerk with a Round, a Base, something done, or so many Got, that is not ok.
func wrongInRounds(fine clerkCase) []clerkCase {
	var list []clerkCase
	turned := func(turn func(c *impl.ClkClerk)) { list = append(list, fine.turned(turn)) }
	for _, round := range wrongSites(impl.PlnMaxRound + 1) {
		turned(func(c *impl.ClkClerk) { c.Round = round })
	}
	for _, base := range wrongVals() {
		turned(func(c *impl.ClkClerk) { c.Base = base })
	}
	for _, wrong := range [][]impl.PlnDone{nil, {}, fine.c.Done[:2], append(slices.Clone(fine.c.Done), impl.PlnDone{})} {
		turned(func(c *impl.ClkClerk) { c.Done = wrong })
	}
	for _, one := range wrongDones() {
		for client := range fine.p.Clients {
			turned(func(c *impl.ClkClerk) { c.Done[client] = one })
		}
	}
	more, same := impl.ClkGot{}, fine.c.Got[0]
	for _, wrong := range [][]impl.ClkGot{nil, {}, fine.c.Got[:1], fine.c.Got[1:], append(slices.Clone(fine.c.Got), more), append(slices.Clone(fine.c.Got), same)} {
		turned(func(c *impl.ClkClerk) { c.Got = wrong })
	}
	return list
}

// wrongWants are calls of which one is not ok, or whose clients do not rise.
func wrongWants(fine clerkCase) [][]impl.PlnCall {
	a, b, c := fine.c.Wants[0], fine.c.Wants[1], fine.c.Wants[2]
	later := call(1, 3, 0, 9, 0)
	list := [][]impl.PlnCall{{b, a}, {c, a}, {a, c, b}, {c, b, a}, {a, a}, {a, b, b}, {c, c}, {b, later}, {later, b}, {a, b, c, a}, slices.Repeat([]impl.PlnCall{a}, 500)}
	for _, wrong := range append(wrongCalls(), call(3, 1, 0, 0, 0)) {
		list = append(list, []impl.PlnCall{wrong})
		if wrong.Client > 0 {
			list = append(list, []impl.PlnCall{a, wrong})
		}
		if wrong.Client < 2 {
			list = append(list, []impl.PlnCall{wrong, c})
		}
	}
	return list
}

// wrongGots are what no site of takers may have told: site 0 may go 10 far, and site 1 6 far; pot 2 is pinned.
func wrongGots(p impl.PlnPlan, site int) []impl.ClkGot {
	far := p.Gives[site] + 1
	none, seqs := []int{0, 0, 0}, []int{0, 0, 0}
	list := []impl.ClkGot{{Has: true}, {Has: true, Added: none}, {Has: true, Seqs: seqs}, {Added: none}, {Seqs: seqs}, {Added: none, Seqs: seqs}, {Added: []int{1}}, {Seqs: []int{1}}}
	for _, added := range append(wrongAdded(), []int{far, 0, 0}, []int{-far, 0, 0}, []int{0, far, 0}, []int{0, -far, 0}, []int{0, 0, 1}, []int{0, 0, -1}, []int{1, 1, 1}) {
		list = append(list, told(added, seqs...))
	}
	for _, wrong := range append(wrongLists(p.Clients, impl.PlnMaxSeq), []int{-1, 0, 0}, []int{0, -1, 0}, []int{0, 0, -1}) {
		list = append(list, told(none, wrong...))
	}
	return list
}
