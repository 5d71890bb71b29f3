package tests

import (
	"slices"

	"loop.example/concord/impl"
)

func event(kind, at int) impl.WldEvent {
	return impl.WldEvent{Kind: kind, At: at}
}

// calling is WldCall of a client.
func calling(client, act int, args ...int) impl.WldEvent {
	return impl.WldEvent{Kind: impl.WldCall, At: client, Act: act, Args: args}
}

func worldKinds() []int {
	return []int{
		impl.WldCall, impl.WldTry, impl.WldDeaf, impl.WldBring, impl.WldLose,
		impl.WldTwice, impl.WldTick, impl.WldFall, impl.WldRise, impl.WldClerk,
	}
}

func logged(one impl.PlnCall, code int, tells ...int) impl.LogDone {
	return impl.LogDone{Call: one, Res: result(code, tells...)}
}

func waiting(seq int, r impl.ResResult, one impl.PlnCall) impl.ConClient {
	return impl.ConClient{Seq: seq, Res: r, Busy: true, Call: one}
}

func answered(seq int, r impl.ResResult) impl.ConClient {
	return impl.ConClient{Seq: seq, Res: r}
}

func samePlan(a, b impl.PlnPlan) bool {
	sameAct := func(a, b []impl.ActLine) bool { return slices.EqualFunc(a, b, sameLine) }
	return a.Clients == b.Clients && slices.EqualFunc(a.Acts, b.Acts, sameAct) && slices.Equal(a.Gives, b.Gives) && slices.Equal(a.Start, b.Start)
}

func sameClient(a, b impl.ConClient) bool {
	return a.Seq == b.Seq && a.Busy == b.Busy && sameCall(a.Call, b.Call) && sameResult(a.Res, b.Res)
}

func sameLogged(a, b impl.LogDone) bool {
	return sameCall(a.Call, b.Call) && sameResult(a.Res, b.Res)
}

func sameLog(a, b []impl.LogDone) bool {
	return slices.EqualFunc(a, b, sameLogged)
}

func sameWorld(a, b impl.WldWorld) bool {
	return samePlan(a.Plan, b.Plan) && slices.EqualFunc(a.Sites, b.Sites, sameSite) && sameClerk(a.Clerk, b.Clerk) &&
		slices.EqualFunc(a.Clients, b.Clients, sameClient) && sameMessages(a.Net, b.Net) && sameLog(a.Log, b.Log)
}

func isNoWorld(w impl.WldWorld) bool {
	return sameWorld(w, impl.WldWorld{})
}

// turnedWorld is a world of its own, with one thing turned; the plan is shared, as nobody turns it.
func turnedWorld(w impl.WldWorld, turn func(w *impl.WldWorld)) impl.WldWorld {
	then := impl.WldWorld{Plan: w.Plan, Clerk: copyOfClerk(w.Clerk)}
	for _, s := range w.Sites {
		then.Sites = append(then.Sites, copyOfSite(s))
	}
	then.Clients, then.Net, then.Log = slices.Clone(w.Clients), slices.Clone(w.Net), slices.Clone(w.Log)
	turn(&then)
	return then
}

// stir is a world of takers in the midst of round 4: client 0 waits for a round, client 2 could have its call done by site 0 alone, client 1 does not wait; site 1 has told.
func stir() impl.WldWorld {
	first := taker().s
	second := impl.SitSite{Up: true, Frozen: true, Round: 4, Base: []int{25, 1, 2}, Added: []int{2, 1, 0}}
	second.Done = []impl.PlnDone{{}, done(1, impl.ResStopped), {}}
	clerk := impl.ClkClerk{Up: true, Round: 4, Base: []int{25, 1, 2}, Wants: []impl.PlnCall{call(0, 3, 2, 0, 0)}}
	clerk.Done = []impl.PlnDone{done(1, impl.ResDone, 3), done(1, impl.ResStopped), {}}
	clerk.Got = []impl.ClkGot{{}, told([]int{2, 1, 0}, 0, 1, 0)}
	return impl.WldWorld{
		Plan:  takers(),
		Sites: []impl.SitSite{first, second},
		Clerk: clerk,
		Clients: []impl.ConClient{
			waiting(2, result(impl.ResDone, 3), call(0, 3, 2, 0, 0)),
			answered(1, result(impl.ResStopped)),
			waiting(0, impl.ResResult{}, call(2, 1, 0, 4, 0)),
		},
		Net: []impl.MsgMsg{
			wants(call(2, 1, 2, 0, 0)),
			freezes(0, 4),
			gives(0, 4, []int{-3, 0, 0}, 2, 1, 0),
			agrees(1, 5, []int{9, 8, 7}, done(3, impl.ResDone, 1), done(2, impl.ResOver), impl.PlnDone{}),
			freezes(1, 4),
		},
		Log: []impl.LogDone{
			logged(call(1, 1, 3, 0, 0), impl.ResStopped),
			logged(call(0, 1, 2, 0, 0), impl.ResDone, 3),
			logged(call(0, 2, 0, 3, 0), impl.ResDone, 3),
		},
	}
}

// withNet has so many messages, of which the first ones are those of the world.
func withNet(w impl.WldWorld, many int) impl.WldWorld {
	return turnedWorld(w, func(w *impl.WldWorld) {
		for len(w.Net) < many {
			w.Net = append(w.Net, freezes(len(w.Net)%len(w.Plan.Gives), len(w.Net)))
		}
		w.Net = w.Net[:many]
	})
}

// withLog has so many calls done, of which the first ones are those of the world.
func withLog(w impl.WldWorld, many int) impl.WldWorld {
	return turnedWorld(w, func(w *impl.WldWorld) {
		for len(w.Log) < many {
			w.Log = append(w.Log, logged(call(0, 1+len(w.Log), 0, 1, 0), impl.ResDone, len(w.Log)))
		}
		w.Log = w.Log[:many]
	})
}

func isAmong(at, size int) bool {
	return at >= 0 && at < size
}

func busyClients(w impl.WldWorld) int {
	busy := 0
	for _, client := range w.Clients {
		if client.Busy {
			busy++
		}
	}
	return busy
}

// stepByHand asks in the document's order what WldStep asks, of a world that is ok.
func stepByHand(w impl.WldWorld, e impl.WldEvent) impl.WldWorld {
	return turnedWorld(w, func(w *impl.WldWorld) {
		switch e.Kind {
		case impl.WldCall:
			callByHand(w, e)
		case impl.WldTry, impl.WldDeaf:
			tryAtHomeByHand(w, e.At, e.Kind == impl.WldTry)
		case impl.WldBring, impl.WldLose, impl.WldTwice:
			netByHand(w, e)
		case impl.WldTick:
			sendByHand(w, clerkCase{w.Plan, w.Clerk}.tick())
		case impl.WldFall, impl.WldRise:
			if isAmong(e.At, len(w.Sites)) {
				w.Sites[e.At].Up = e.Kind == impl.WldRise
			}
		case impl.WldClerk:
			if up := e.At > 0; up != w.Clerk.Up {
				w.Clerk.Up, w.Clerk.Wants, w.Clerk.Got = up, nil, make([]impl.ClkGot, len(w.Sites))
			}
		}
	})
}

func callByHand(w *impl.WldWorld, e impl.WldEvent) {
	if !isAmong(e.At, len(w.Clients)) {
		return
	}
	client := w.Clients[e.At]
	fine := isAmong(e.Act, len(w.Plan.Acts)) && len(e.Args) == impl.FrmArgs && allIn(impl.ArgMax, e.Args) && client.Seq < impl.PlnMaxSeq
	if fine && !client.Busy && len(w.Log)+busyClients(*w)+1 <= impl.WldMaxLog {
		w.Clients[e.At] = waiting(client.Seq, client.Res, call(e.At, client.Seq+1, e.Act, e.Args...))
	}
}

func tryAtHomeByHand(w *impl.WldWorld, client int, answer bool) {
	if !isAmong(client, len(w.Clients)) || !w.Clients[client].Busy {
		return
	}
	home, one := client%len(w.Sites), w.Clients[client].Call
	before := w.Sites[home]
	s, r, says := siteCase{w.Plan, before, home}.tryByHand(one)
	w.Sites[home] = s
	sendByHand(w, says)
	if s.Done[client].Seq > before.Done[client].Seq {
		writeByHand(w, one, r)
	}
	if r.Code != 0 && answer {
		w.Clients[client] = answered(one.Seq, r)
	}
}

func netByHand(w *impl.WldWorld, e impl.WldEvent) {
	if !isAmong(e.At, len(w.Net)) {
		return
	}
	m := w.Net[e.At]
	if e.Kind == impl.WldTwice {
		sendByHand(w, []impl.MsgMsg{m})
		return
	}
	w.Net = append(slices.Clone(w.Net[:e.At]), w.Net[e.At+1:]...)
	if e.Kind == impl.WldLose {
		return
	}
	if m.To == impl.MsgClerk {
		heard := clerkCase{w.Plan, w.Clerk}.hearByHand(m)
		w.Clerk = heard.c
		sendByHand(w, heard.says)
		for i, one := range heard.calls {
			writeByHand(w, one, heard.results[i])
		}
		return
	}
	s, says := siteCase{w.Plan, w.Sites[m.To], m.To}.hearByHand(m)
	w.Sites[m.To] = s
	sendByHand(w, says)
}

func sendByHand(w *impl.WldWorld, says []impl.MsgMsg) {
	for _, m := range says {
		if len(w.Net) < impl.WldMaxNet {
			w.Net = append(w.Net, m)
		}
	}
}

func writeByHand(w *impl.WldWorld, one impl.PlnCall, r impl.ResResult) {
	if len(w.Log) < impl.WldMaxLog {
		w.Log = append(w.Log, impl.LogDone{Call: one, Res: r})
	}
}

// loosePlan has loose acts, and Start that now and then is near an end.
func (t *turning) loosePlan() impl.PlnPlan {
	tr := t.treaty(60)
	if t.next(4) > 3 {
		tr.Base[1+t.next(1)] = impl.PlnMaxStart
	}
	return impl.PlnPlan{Clients: 1 + (t.next(9)+9)%impl.PlnMaxClients, Acts: t.looseCat(), Gives: tr.Gives, Start: tr.Base}
}

// looseWorlds are ok, and need not be such as come from WldNew: sites in any rounds, calls that wait and are done already or skip numbers, few or many messages and calls done.
func looseWorlds(state uint64, many int) []impl.WldWorld {
	turn := &turning{state: state}
	var list []impl.WldWorld
	for range many {
		p := turn.loosePlan()
		parts, pins := partsByHand(p.Acts), pinsByHand(p.Acts)
		for range 4 {
			w := impl.WldWorld{Plan: p, Clerk: turn.looseClerk(p, parts, pins)}
			for at := range p.Gives {
				w.Sites = append(w.Sites, turn.looseSite(p, parts, pins, at, w.Clerk))
			}
			for at := range p.Clients {
				w.Clients = append(w.Clients, turn.looseClient(p, at, w.Sites[at%len(p.Gives)].Done[at].Seq))
			}
			w.Net = turn.looseNet(w)
			list = append(list, withLog(w, []int{0, 1, 3, 97, 98, 99, 100}[3+turn.next(3)]))
		}
	}
	return list
}

// looseClerk waits more often than not for one site alone, so that a message may end the round.
func (t *turning) looseClerk(p impl.PlnPlan, parts [][]int, pins []bool) impl.ClkClerk {
	c := impl.ClkClerk{Up: t.next(5) < 5, Round: t.someRound(), Base: t.nearBase(), Done: t.someDones(p.Clients), Got: make([]impl.ClkGot, len(p.Gives))}
	if c.Up {
		t.fill(p, &c, parts, pins)
		c.Got[(t.next(9)+9)%len(p.Gives)] = impl.ClkGot{}
	}
	return c
}

func (t *turning) looseSite(p impl.PlnPlan, parts [][]int, pins []bool, at int, c impl.ClkClerk) impl.SitSite {
	s := impl.SitSite{Up: t.next(5) < 5, Frozen: t.next(5) > 3, Round: c.Round, Base: c.Base}
	if t.next(3) > 1 {
		s.Round, s.Base = t.someRound(), t.nearBase()
	}
	s.Added, s.Done = t.keeping(treaty(s.Base, p.Gives...), parts, pins, at), t.someDones(p.Clients)
	return s
}

// looseClient mostly waits with the next call by what its home has done, or with one that was done.
func (t *turning) looseClient(p impl.PlnPlan, at, home int) impl.ConClient {
	last := t.someDone()
	if t.next(4) < 4 {
		last = impl.PlnDone{}
		if seq := home + min(0, t.next(1)); seq > 0 {
			last = done(seq, impl.ResDone, t.next(9))
		}
	}
	if last.Seq == impl.PlnMaxSeq || t.next(4) > 2 {
		return answered(last.Seq, last.Res)
	}
	return waiting(last.Seq, last.Res, call(at, last.Seq+1, (t.next(9)+9)%len(p.Acts), t.args()...))
}

// looseNet takes of all messages that may be.
func (t *turning) looseNet(w impl.WldWorld) []impl.MsgMsg {
	all := clerkCase{w.Plan, w.Clerk}.messages(t)
	for at, s := range w.Sites {
		all = append(all, siteCase{w.Plan, s, at}.messages(t)...)
	}
	var net []impl.MsgMsg
	for range []int{0, 1, 5, 28, 29, 30, 30}[3+t.next(3)] {
		net = append(net, all[(t.next(999)+999)%len(all)])
	}
	return net
}

// looseEvents are all kinds at each place and beside both ends.
func (t *turning) looseEvents(w impl.WldWorld) []impl.WldEvent {
	var list []impl.WldEvent
	for at := -1; at <= len(w.Clients); at++ {
		list = append(list, calling(at, (t.next(9)+9)%len(w.Plan.Acts), t.args()...), event(impl.WldTry, at), event(impl.WldDeaf, at))
	}
	for at := -1; at <= len(w.Net); at++ {
		list = append(list, event(impl.WldBring, at), event(impl.WldLose, at), event(impl.WldTwice, at))
	}
	for at := -1; at <= len(w.Sites); at++ {
		list = append(list, event(impl.WldFall, at), event(impl.WldRise, at), event(impl.WldClerk, at), event(impl.WldTick, at))
	}
	return append(list, event(0, 0), event(-1, 0), event(impl.WldClerk+1, 0))
}

// someEvent is what may happen next on a walk; where there is a crowd of messages most often one of them is brought, so that rounds end.
func (t *turning) someEvent(w impl.WldWorld, crowd int) impl.WldEvent {
	place := func(size int) int { return (t.next(999) + 999) % max(1, size) }
	if len(w.Net) >= crowd && t.next(4) < 3 {
		return event(impl.WldBring, max(0, t.next(crowd)))
	}
	switch n := t.next(50); {
	case n < -38:
		return calling(place(len(w.Clients)), place(len(w.Plan.Acts)), t.args()...)
	case n < -14:
		return event(impl.WldTry, place(len(w.Clients)))
	case n < -8:
		return event(impl.WldDeaf, place(len(w.Clients)))
	case n < 24:
		return event(impl.WldBring, place(len(w.Net)))
	case n < 27:
		return event(impl.WldLose, place(len(w.Net)))
	case n < 30:
		return event(impl.WldTwice, place(len(w.Net)))
	case n < 43:
		return event(impl.WldTick, 0)
	case n < 44:
		return event(impl.WldFall, place(2*len(w.Sites)))
	case n < 49:
		return event(impl.WldRise, place(len(w.Sites)))
	}
	return event(impl.WldClerk, 2+t.next(2))
}

// walks goes so many ways from WldNew on, each third one through crowds of messages, and shows each step.
func walks(state uint64, many, steps int, show func(before impl.WldWorld, e impl.WldEvent, then impl.WldWorld)) {
	anything := func(turn *turning, w impl.WldWorld, crowd, step int) impl.WldEvent { return turn.someEvent(w, crowd) }
	walksBy(state, many, steps, (*turning).loosePlan, anything, show)
}

// walksBy goes as walks does, with plans and events of its own.
func walksBy(state uint64, many, steps int, plan func(turn *turning) impl.PlnPlan, pick func(turn *turning, w impl.WldWorld, crowd, step int) impl.WldEvent, show func(before impl.WldWorld, e impl.WldEvent, then impl.WldWorld)) {
	turn := &turning{state: state}
	for i := range many {
		crowd := []int{3, 6, impl.WldMaxNet + 1}[i%3]
		w := impl.WldNew(plan(turn))
		for step := range steps {
			e := pick(turn, w, crowd, step)
			then := impl.WldStep(w, e)
			show(w, e, then)
			w = then
		}
	}
}
