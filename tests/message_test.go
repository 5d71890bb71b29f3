package tests

import (
	"math"
	"slices"
	"testing"

	"loop.example/concord/impl"
)

func checkMessage(t *testing.T, p impl.PlnPlan, m impl.MsgMsg, want bool, why string) {
	t.Helper()
	if got := impl.MsgOk(p, m); got != want {
		t.Errorf("%s: with %d clients, %d acts and %d sites MsgOk(%v) is %v", why, p.Clients, len(p.Acts), len(p.Gives), m, got)
	}
}

func TestMsgOkByHand(t *testing.T) {
	p := plan(3, 2, 10, 6)
	want := call(2, 1, 1, 3, -4)
	some := []impl.PlnDone{done(4, impl.ResDone, 8), {}, done(1, impl.ResStopped)}
	for _, m := range []impl.MsgMsg{
		{Kind: impl.MsgWant, To: impl.MsgClerk, Call: want},
		{Kind: impl.MsgFreeze, To: 1, Round: 7},
		{Kind: impl.MsgFreeze},
		{Kind: impl.MsgGive, To: impl.MsgClerk, From: 1, Round: 7, Vals: []int{3, 0, -20000}, Seqs: []int{0, 300, 5}},
		{Kind: impl.MsgPact, To: 1, Round: 8, Vals: []int{30, 0, -7}, Done: some},
	} {
		checkMessage(t, p, m, true, "a message")
		for _, kind := range append(kinds(), 0) {
			other := m
			other.Kind = kind
			checkMessage(t, p, other, kind == m.Kind, "as another kind")
		}
	}
	checkMessage(t, p, impl.MsgMsg{}, false, "nothing")
}

// The least that a kind has is ok, by each plan, with empty lists that are there, too.
func TestMsgOkOfBareMessages(t *testing.T) {
	for _, p := range allPlans() {
		for _, kind := range kinds() {
			checkMessage(t, p, bare(p, kind), true, "bare")
			for _, thing := range msgThings() {
				if !slices.Contains(thing.kinds, kind) {
					for _, value := range thing.empty {
						checkMessage(t, p, thing.with(bare(p, kind), value), true, "with an empty "+thing.name)
					}
				}
			}
		}
	}
}

func TestMsgOkOfWhatAKindHas(t *testing.T) {
	for _, p := range allPlans() {
		for _, thing := range msgThings() {
			for _, kind := range thing.kinds {
				for _, value := range thing.fine(p, kind) {
					checkMessage(t, p, thing.with(bare(p, kind), value), true, "with a fine "+thing.name)
				}
				for _, value := range thing.wrong(p, kind) {
					checkMessage(t, p, thing.with(bare(p, kind), value), false, "with a wrong "+thing.name)
				}
			}
		}
	}
}

func TestMsgOkOfWhatAKindDoesNotHave(t *testing.T) {
	for _, p := range allPlans() {
		for _, thing := range msgThings() {
			for _, kind := range kinds() {
				if slices.Contains(thing.kinds, kind) {
					continue
				}
				for _, value := range thing.some {
					checkMessage(t, p, thing.with(bare(p, kind), value), false, "with "+thing.name)
				}
			}
		}
	}
}

// Two things at once: the message is ok just if both are.
func TestMsgOkOfPairs(t *testing.T) {
	p := plan(2, 2, 10, 6)
	for _, kind := range kinds() {
		for i, a := range msgThings() {
			for _, b := range msgThings()[i+1:] {
				fineA, wrongA := choices(a, p, kind)
				fineB, wrongB := choices(b, p, kind)
				for _, first := range append(fineA, wrongA...) {
					for _, second := range append(fineB, wrongB...) {
						m := b.with(a.with(bare(p, kind), first.value), second.value)
						checkMessage(t, p, m, first.ok && second.ok, "with "+a.name+" and "+b.name)
					}
				}
			}
		}
	}
}

type choice struct {
	value any
	ok    bool
}

// choices are some values for a thing of a message of a kind, few enough for pairs of them.
func choices(thing msgThing, p impl.PlnPlan, kind int) ([]choice, []choice) {
	fine, wrong := thing.empty, thing.some
	if slices.Contains(thing.kinds, kind) {
		fine, wrong = thing.fine(p, kind), thing.wrong(p, kind)
	}
	return fewOf(fine, true), fewOf(wrong, false)
}

func fewOf(values []any, ok bool) []choice {
	var few []choice
	for i := 0; i < len(values); i += 1 + len(values)/8 {
		few = append(few, choice{value: values[i], ok: ok})
	}
	return few
}

func TestMsgOkOfOtherKinds(t *testing.T) {
	p := plan(3, 2, 10, 6)
	for _, wrong := range []int{0, -1, impl.MsgPact + 1, 7, math.MaxInt, math.MinInt} {
		for _, kind := range kinds() {
			m := bare(p, kind)
			m.Kind = wrong
			checkMessage(t, p, m, false, "of another kind")
		}
		checkMessage(t, p, impl.MsgMsg{Kind: wrong}, false, "of another kind")
		checkMessage(t, p, impl.MsgMsg{Kind: wrong, To: impl.MsgClerk}, false, "of another kind")
	}
}

func TestMsgOkOfNoPlan(t *testing.T) {
	for _, p := range wrongPlans() {
		like := plan(min(max(p.Clients, 1), impl.PlnMaxClients), 1, 5)
		for _, kind := range kinds() {
			checkMessage(t, p, bare(like, kind), false, "by a plan that is not ok")
		}
		checkMessage(t, p, impl.MsgMsg{}, false, "by a plan that is not ok")
	}
}
