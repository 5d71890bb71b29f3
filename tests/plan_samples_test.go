package tests

import (
	"math"
	"slices"

	"loop.example/concord/impl"
)

// plan has so many clients and acts, and the sites that may go so far.
func plan(clients, acts int, gives ...int) impl.PlnPlan {
	p := impl.PlnPlan{Clients: clients, Gives: gives, Start: []int{30, 0, -7}}
	for k := range acts {
		p.Acts = append(p.Acts, []impl.ActLine{adding(0, number(k)), telling(pot(2))})
	}
	return p
}

// allPlans have each number of clients, acts and sites that may be.
func allPlans() []impl.PlnPlan {
	var list []impl.PlnPlan
	for clients := 1; clients <= impl.PlnMaxClients; clients++ {
		for acts := 1; acts <= impl.CatMax; acts++ {
			for sites := 1; sites <= impl.TrtMaxSites; sites++ {
				list = append(list, plan(clients, acts, []int{10, 0, impl.TrtMaxGive}[:sites]...))
			}
		}
	}
	return list
}

// okPlans have besides these Start and Gives at their ends, and other acts.
func okPlans() []impl.PlnPlan {
	const s, g = impl.PlnMaxStart, impl.TrtMaxGive
	list := allPlans()
	for _, start := range [][]int{{0, 0, 0}, {s, s, s}, {-s, -s, -s}, {s, -s, 0}, {1 - s, 1, s - 1}} {
		for _, gives := range [][]int{{0}, {g}, {0, 0}, {g, 0}, {0, 0, 0}, {g, g, g}} {
			p := plan(2, 1, gives...)
			p.Start = start
			list = append(list, p)
		}
	}
	for i, acts := range someCats() {
		if i%10 == 0 {
			p := plan(3, 0, 5, 6)
			p.Acts = acts
			list = append(list, p)
		}
	}
	return list
}

// wrongPlans have one thing that is not ok.
func wrongPlans() []impl.PlnPlan {
	list := []impl.PlnPlan{{}, {Clients: 1}, {Clients: 1, Gives: []int{1}, Start: []int{0, 0, 0}}}
	for _, clients := range []int{0, -1, impl.PlnMaxClients + 1, math.MaxInt, math.MinInt} {
		list = append(list, plan(clients, 1, 5), plan(clients, impl.CatMax, 5, 6, 7))
	}
	for _, acts := range wrongCats() {
		p := plan(2, 0, 5, 6)
		p.Acts = acts
		list = append(list, p)
	}
	for _, start := range slices.Concat(wrongLists(impl.FrmPots, impl.PlnMaxStart), wrongVals()) {
		p := plan(2, 1, 5, 6)
		p.Start = start
		list = append(list, p)
	}
	for _, tr := range wrongTreaties() {
		p := plan(2, 1, tr.Gives...)
		p.Start = tr.Base
		list = append(list, p)
	}
	return list
}

func call(client, seq, act int, args ...int) impl.PlnCall {
	return impl.PlnCall{Client: client, Seq: seq, Act: act, Args: args}
}

func sameCall(a, b impl.PlnCall) bool {
	return a.Client == b.Client && a.Seq == b.Seq && a.Act == b.Act && slices.Equal(a.Args, b.Args)
}

// okCalls have a text: each client and act that there may be, with Seq and arguments at their ends.
func okCalls() []impl.PlnCall {
	var list []impl.PlnCall
	for client := range impl.PlnMaxClients {
		for act := range impl.CatMax {
			for _, seq := range []int{1, 2, 10, 99, 100, impl.PlnMaxSeq - 1, impl.PlnMaxSeq} {
				for _, args := range okArgs() {
					list = append(list, call(client, seq, act, args...))
				}
			}
		}
	}
	return list
}

// wrongCalls have one thing that no plan allows.
func wrongCalls() []impl.PlnCall {
	list := []impl.PlnCall{{}, {Seq: 1}, {Args: []int{0, 0}}}
	for _, n := range wrongSites(impl.PlnMaxClients) {
		list = append(list, call(n, 1, 0, 1, 2))
	}
	for _, n := range []int{0, -1, impl.PlnMaxSeq + 1, math.MaxInt, math.MinInt} {
		list = append(list, call(0, n, 0, 1, 2), call(1, n, 1, 0, 0))
	}
	for _, n := range wrongSites(impl.CatMax) {
		list = append(list, call(0, 1, n, 1, 2))
	}
	for _, args := range wrongArgs() {
		list = append(list, call(0, 1, 0, args...), call(0, impl.PlnMaxSeq, 0, args...))
	}
	return list
}
