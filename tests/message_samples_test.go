package tests

import (
	"math"
	"slices"

	"loop.example/concord/impl"
)

func done(seq, code int, tells ...int) impl.PlnDone {
	return impl.PlnDone{Seq: seq, Res: impl.ResResult{Code: code, Tells: tells}}
}

func kinds() []int {
	return []int{impl.MsgWant, impl.MsgFreeze, impl.MsgGive, impl.MsgPact}
}

// bare is a message of a kind that is ok, with as much at its least as may be.
func bare(p impl.PlnPlan, kind int) impl.MsgMsg {
	switch kind {
	case impl.MsgWant:
		return impl.MsgMsg{Kind: kind, To: impl.MsgClerk, Call: call(0, 1, 0, 0, 0)}
	case impl.MsgFreeze:
		return impl.MsgMsg{Kind: kind}
	case impl.MsgGive:
		return impl.MsgMsg{Kind: kind, To: impl.MsgClerk, Vals: []int{0, 0, 0}, Seqs: make([]int, p.Clients)}
	}
	return impl.MsgMsg{Kind: kind, Vals: []int{0, 0, 0}, Done: make([]impl.PlnDone, p.Clients)}
}

// msgThing is one of the things that messages have: which kinds have it, and messages that differ from a given one in it alone.
type msgThing struct {
	name  string
	kinds []int
	with  func(m impl.MsgMsg, value any) impl.MsgMsg
	// fine and wrong are of a message of the kind that has it; empty is what it is where it is not.
	fine  func(p impl.PlnPlan, kind int) []any
	wrong func(p impl.PlnPlan, kind int) []any
	empty []any
	// some is not empty, and neither need be ok.
	some []any
}

func anys[T any](list []T) []any {
	var all []any
	for _, one := range list {
		all = append(all, one)
	}
	return all
}

func msgThings() []msgThing {
	return []msgThing{toThing(), fromThing(), roundThing(), callThing(), valsThing(), seqsThing(), doneThing()}
}

func sitesOf(p impl.PlnPlan) []int {
	var sites []int
	for site := range p.Gives {
		sites = append(sites, site)
	}
	return sites
}

func toThing() msgThing {
	return msgThing{
		name:  "To",
		kinds: kinds(),
		with: func(m impl.MsgMsg, value any) impl.MsgMsg {
			m.To = value.(int)
			return m
		},
		fine: func(p impl.PlnPlan, kind int) []any {
			if kind == impl.MsgWant || kind == impl.MsgGive {
				return []any{impl.MsgClerk}
			}
			return anys(sitesOf(p))
		},
		wrong: func(p impl.PlnPlan, kind int) []any {
			if kind == impl.MsgWant || kind == impl.MsgGive {
				return anys([]int{0, 1, 2, 3, impl.MsgClerk - 1, math.MaxInt, math.MinInt})
			}
			return anys(wrongSites(len(p.Gives)))
		},
	}
}

func fromThing() msgThing {
	return msgThing{
		name:  "From",
		kinds: []int{impl.MsgGive},
		with: func(m impl.MsgMsg, value any) impl.MsgMsg {
			m.From = value.(int)
			return m
		},
		fine:  func(p impl.PlnPlan, kind int) []any { return anys(sitesOf(p)) },
		wrong: func(p impl.PlnPlan, kind int) []any { return anys(wrongSites(len(p.Gives))) },
		empty: []any{0},
		some:  []any{1, 2, -1, 3, math.MaxInt, math.MinInt},
	}
}

func roundThing() msgThing {
	return msgThing{
		name:  "Round",
		kinds: []int{impl.MsgFreeze, impl.MsgGive, impl.MsgPact},
		with: func(m impl.MsgMsg, value any) impl.MsgMsg {
			m.Round = value.(int)
			return m
		},
		fine:  func(p impl.PlnPlan, kind int) []any { return []any{0, 1, 7, impl.PlnMaxRound - 1, impl.PlnMaxRound} },
		wrong: func(p impl.PlnPlan, kind int) []any { return anys(wrongSites(impl.PlnMaxRound + 1)) },
		empty: []any{0},
		some:  []any{1, -1, impl.PlnMaxRound, impl.PlnMaxRound + 1, math.MinInt},
	}
}

func callThing() msgThing {
	return msgThing{
		name:  "Call",
		kinds: []int{impl.MsgWant},
		with: func(m impl.MsgMsg, value any) impl.MsgMsg {
			m.Call = value.(impl.PlnCall)
			return m
		},
		fine: func(p impl.PlnPlan, kind int) []any {
			last := call(p.Clients-1, impl.PlnMaxSeq, len(p.Acts)-1, impl.ArgMax, -impl.ArgMax)
			return anys([]impl.PlnCall{call(0, 1, 0, 0, 0), last})
		},
		wrong: func(p impl.PlnPlan, kind int) []any {
			return anys(append(wrongCalls(), call(p.Clients, 1, 0, 0, 0), call(0, 1, len(p.Acts), 0, 0)))
		},
		empty: anys([]impl.PlnCall{{}, {Args: []int{}}}),
		some: anys([]impl.PlnCall{
			{Client: 1}, {Client: -1}, {Seq: 1}, {Seq: -1}, {Act: 1}, {Act: -1}, {Args: []int{0}}, {Args: []int{0, 0}}, {Args: []int{1, 2}},
			call(0, 1, 0, 0, 0), call(1, 2, 0, 3, 4),
		}),
	}
}

func valsThing() msgThing {
	const v = impl.ValMax
	return msgThing{
		name:  "Vals",
		kinds: []int{impl.MsgGive, impl.MsgPact},
		with: func(m impl.MsgMsg, value any) impl.MsgMsg {
			m.Vals = value.([]int)
			return m
		},
		fine: func(p impl.PlnPlan, kind int) []any {
			if kind == impl.MsgGive {
				return anys(append(okVals(), []int{2 * v, 2 * v, 2 * v}, []int{-2 * v, -2 * v, -2 * v}, []int{v + 1, 0, -v - 1}))
			}
			return anys(okVals())
		},
		wrong: func(p impl.PlnPlan, kind int) []any {
			if kind == impl.MsgGive {
				return anys(wrongAdded())
			}
			return anys(wrongVals())
		},
		empty: anys([][]int{nil, {}}),
		some:  anys([][]int{{0}, {0, 0}, {0, 0, 0}, {1, 2, 3}, {0, 0, 0, 0}}),
	}
}

func seqsThing() msgThing {
	const m = impl.PlnMaxSeq
	return msgThing{
		name:  "Seqs",
		kinds: []int{impl.MsgGive},
		with: func(m impl.MsgMsg, value any) impl.MsgMsg {
			m.Seqs = value.([]int)
			return m
		},
		fine: func(p impl.PlnPlan, kind int) []any {
			return anys([][]int{make([]int, p.Clients), slices.Repeat([]int{m}, p.Clients), []int{3, 0, m, 1}[:p.Clients]})
		},
		wrong: func(p impl.PlnPlan, kind int) []any {
			list := wrongLists(p.Clients, m)
			for place := range p.Clients {
				below := make([]int, p.Clients)
				below[place] = -1
				list = append(list, below)
			}
			return anys(list)
		},
		empty: anys([][]int{nil, {}}),
		some:  anys([][]int{{0}, {0, 0}, {0, 0, 0}, {1, 2, 3}, {0, 0, 0, 0}}),
	}
}

func doneThing() msgThing {
	return msgThing{
		name:  "Done",
		kinds: []int{impl.MsgPact},
		with: func(m impl.MsgMsg, value any) impl.MsgMsg {
			m.Done = value.([]impl.PlnDone)
			return m
		},
		fine: func(p impl.PlnPlan, kind int) []any {
			list := [][]impl.PlnDone{make([]impl.PlnDone, p.Clients)}
			for _, one := range okDones() {
				list = append(list, slices.Repeat([]impl.PlnDone{one}, p.Clients))
				list = append(list, dones(p.Clients, p.Clients-1, one))
			}
			return anys(list)
		},
		wrong: func(p impl.PlnPlan, kind int) []any {
			list := [][]impl.PlnDone{nil, {}, make([]impl.PlnDone, p.Clients-1), make([]impl.PlnDone, p.Clients+1), make([]impl.PlnDone, 1000)}
			for _, one := range wrongDones() {
				for place := range p.Clients {
					list = append(list, dones(p.Clients, place, one))
				}
			}
			return anys(list)
		},
		empty: anys([][]impl.PlnDone{nil, {}}),
		some:  anys([][]impl.PlnDone{{{}}, {{}, {}}, {{}, {}, {}}, {{}, {}, {}, {}}, {done(1, impl.ResDone)}, {done(1, impl.ResDone), done(2, impl.ResOver)}}),
	}
}

// dones has nothing but in one place.
func dones(size, place int, one impl.PlnDone) []impl.PlnDone {
	list := make([]impl.PlnDone, size)
	list[place] = one
	return list
}

func okDones() []impl.PlnDone {
	list := []impl.PlnDone{{}, {Res: impl.ResResult{Tells: []int{}}}}
	for _, seq := range []int{1, 2, impl.PlnMaxSeq - 1, impl.PlnMaxSeq} {
		for _, r := range okResults() {
			list = append(list, impl.PlnDone{Seq: seq, Res: r})
		}
	}
	return list
}

// wrongDones have a Seq that may not be, no result with one that may, or a result with none.
func wrongDones() []impl.PlnDone {
	var list []impl.PlnDone
	for _, seq := range []int{-1, impl.PlnMaxSeq + 1, math.MaxInt, math.MinInt} {
		list = append(list, done(seq, 0), done(seq, impl.ResDone), done(seq, impl.ResStopped))
	}
	for _, r := range wrongResults() {
		list = append(list, impl.PlnDone{Seq: 1, Res: r}, impl.PlnDone{Seq: impl.PlnMaxSeq, Res: r})
	}
	for _, code := range []int{impl.ResDone, impl.ResStopped, impl.ResOver, -1, impl.ResOver + 1} {
		list = append(list, done(0, code))
	}
	return append(list, done(0, 0, 0), done(0, 0, 5), done(0, impl.ResDone, 1))
}

// wrongMessages have one thing that is not ok, or that their kind does not have, or are of no kind.
func wrongMessages(p impl.PlnPlan) []impl.MsgMsg {
	var list []impl.MsgMsg
	for _, thing := range msgThings() {
		for _, kind := range kinds() {
			wrong := thing.some
			if slices.Contains(thing.kinds, kind) {
				wrong = thing.wrong(p, kind)
			}
			for _, value := range wrong {
				list = append(list, thing.with(bare(p, kind), value))
			}
		}
	}
	for _, kind := range []int{0, -1, impl.MsgPact + 1} {
		list = append(list, impl.MsgMsg{Kind: kind}, impl.MsgMsg{Kind: kind, To: impl.MsgClerk})
	}
	return list
}
