package tests

import (
	"testing"

	"loop.example/concord/impl"
)

func TestPlnOk(t *testing.T) {
	for _, p := range okPlans() {
		if !impl.PlnOk(p) {
			t.Errorf("PlnOk(%v) is false", p)
		}
	}
	for _, p := range wrongPlans() {
		if impl.PlnOk(p) {
			t.Errorf("PlnOk(%v) is true", p)
		}
	}
}

// What a pot has at first is bound closer than what it may have later.
func TestPlnOkAsksForLessAtFirst(t *testing.T) {
	for v := range impl.FrmPots {
		for _, sign := range []int{1, -1} {
			p := plan(1, 1, 5)
			p.Start[v] = sign * (impl.PlnMaxStart + 1)
			if impl.PlnOk(p) || !impl.TrtOk(treaty(p.Start, p.Gives...)) {
				t.Errorf("PlnOk with Start %v is %v", p.Start, impl.PlnOk(p))
			}
			p.Start[v] = sign * impl.PlnMaxStart
			if !impl.PlnOk(p) {
				t.Errorf("PlnOk with Start %v is false", p.Start)
			}
		}
	}
}

func TestP72HomesGoRound(t *testing.T) {
	for _, p := range okPlans() {
		home := 0
		for client := range p.Clients {
			if got := impl.PlnHome(p, client); got != home {
				t.Errorf("PlnHome(%v, %d) is %d, not %d", p, client, got, home)
			}
			home++
			if home == len(p.Gives) {
				home = 0
			}
		}
	}
}

func TestP72HomesByHand(t *testing.T) {
	for _, c := range []struct{ sites, client, home int }{
		{1, 0, 0}, {1, 3, 0}, {2, 0, 0}, {2, 1, 1}, {2, 2, 0}, {2, 3, 1}, {3, 0, 0}, {3, 1, 1}, {3, 2, 2}, {3, 3, 0},
	} {
		p := plan(impl.PlnMaxClients, 1, make([]int, c.sites)...)
		if got := impl.PlnHome(p, c.client); got != c.home {
			t.Errorf("with %d sites PlnHome of %d is %d", c.sites, c.client, got)
		}
	}
}

func TestP72NoHome(t *testing.T) {
	for _, p := range okPlans() {
		for _, client := range wrongSites(p.Clients) {
			if got := impl.PlnHome(p, client); got != -1 {
				t.Errorf("PlnHome(%v, %d) is %d", p, client, got)
			}
		}
	}
	for _, p := range wrongPlans() {
		for _, client := range append(wrongSites(impl.PlnMaxClients), 0, 1, 2, 3) {
			if got := impl.PlnHome(p, client); got != -1 {
				t.Errorf("PlnHome(%v, %d) is %d", p, client, got)
			}
		}
	}
}

// By P74 a call that has a text is ok by its plan's clients and acts alone.
func TestP74CallsOfPlans(t *testing.T) {
	for _, p := range allPlans() {
		for _, c := range okCalls() {
			want := c.Client < p.Clients && c.Act < len(p.Acts)
			if got := impl.CallOk(p, c); got != want || impl.CallText(c) == "" {
				t.Fatalf("CallOk(%v, %v) is %v", p, c, got)
			}
		}
	}
	for _, p := range okPlans() {
		if !impl.CallOk(p, call(0, 1, 0, 1, 2)) || !impl.CallOk(p, call(p.Clients-1, impl.PlnMaxSeq, len(p.Acts)-1, 9, -9)) {
			t.Errorf("the first or the last call of %v is not ok", p)
		}
	}
}

func TestP74CallsWithoutText(t *testing.T) {
	for _, p := range allPlans() {
		for _, c := range wrongCalls() {
			if impl.CallOk(p, c) || impl.CallText(c) != "" {
				t.Errorf("CallOk(%v, %v) is %v, the text is %q", p, c, impl.CallOk(p, c), impl.CallText(c))
			}
		}
	}
}

func TestP74CallsOfNoPlan(t *testing.T) {
	for _, p := range wrongPlans() {
		for _, c := range []impl.PlnCall{call(0, 1, 0, 0, 0), call(1, 2, 0, 1, 2), {}} {
			if impl.CallOk(p, c) {
				t.Errorf("CallOk(%v, %v) is true", p, c)
			}
		}
	}
}

func TestP65ResultsThatMayCome(t *testing.T) {
	for _, r := range okResults() {
		if !impl.ResOk(r) {
			t.Errorf("ResOk(%v) is false", r)
		}
	}
	for _, r := range wrongResults() {
		if impl.ResOk(r) {
			t.Errorf("ResOk(%v) is true", r)
		}
	}
}

// By P62 and P65: whatever an act comes to is a result that may come, and one that tells nothing where it turned nothing.
func TestP62P65WhatComesOfActs(t *testing.T) {
	turn := &turning{state: 30}
	for _, act := range okActs() {
		vals := turn.nearBase()
		r, pots := impl.ActRun(act, vals, turn.args())
		if got, ok := impl.ResRead(impl.ResText(r)); !impl.ResOk(r) || !ok || !sameResult(got, r) {
			t.Errorf("ActRun(%v, %v) is %v, read as %v and %v", act, vals, r, got, ok)
		}
		if r.Code != impl.ResDone && (len(r.Tells) > 0 || !sameParts([][]int{pots}, [][]int{vals})) {
			t.Errorf("ActRun(%v, %v) is %v and %v", act, vals, r, pots)
		}
	}
}
