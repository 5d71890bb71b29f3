package tests

import (
	"slices"
	"testing"

	"loop.example/concord/impl"
)

// roomyPlan is a copy with marked spare room behind each of its lists.
func roomyPlan(p impl.PlnPlan) impl.PlnPlan {
	long := impl.PlnPlan{Clients: p.Clients, Gives: roomy(p.Gives), Start: roomy(p.Start)}
	for _, act := range p.Acts {
		long.Acts = append(long.Acts, roomyAct(act))
	}
	long.Acts = append(long.Acts, []impl.ActLine{{Kind: mark}})[:len(p.Acts)]
	return long
}

func checkPlanAsItWas(t *testing.T, name string, p, before impl.PlnPlan) {
	t.Helper()
	checkGiven(t, name, [][]int{p.Gives, p.Start}, [][]int{before.Gives, before.Start})
	if p.Clients != before.Clients || len(p.Acts) != len(before.Acts) {
		t.Errorf("%s: the plan is %v, and was %v", name, p, before)
	}
	for k, act := range p.Acts {
		checkActAsItWas(t, act, before.Acts[k])
	}
	if behind := p.Acts[:len(p.Acts)+1][len(p.Acts)]; len(behind) != 1 || behind[0].Kind != mark {
		t.Errorf("%s: behind the acts stands %v", name, behind)
	}
}

func roomyCall(c impl.PlnCall) impl.PlnCall {
	c.Args = roomy(c.Args)
	return c
}

func checkCallAsItWas(t *testing.T, name string, c, before impl.PlnCall) {
	t.Helper()
	if !sameCall(c, before) || !roomIsMarked(c.Args) {
		t.Errorf("%s: the call is %v, and was %v", name, c, before)
	}
}

func roomyDone(list []impl.PlnDone) []impl.PlnDone {
	var long []impl.PlnDone
	for _, one := range list {
		one.Res.Tells = roomy(one.Res.Tells)
		long = append(long, one)
	}
	return append(long, impl.PlnDone{Seq: mark})[:len(list)]
}

func sameDone(a, b impl.PlnDone) bool {
	return a.Seq == b.Seq && sameResult(a.Res, b.Res)
}

func checkDoneAsItWas(t *testing.T, name string, list, before []impl.PlnDone) {
	t.Helper()
	if !slices.EqualFunc(list, before, sameDone) || list[:len(list)+1][len(list)].Seq != mark {
		t.Errorf("%s: what was done is %v, and was %v", name, list, before)
	}
	for _, one := range list {
		if !roomIsMarked(one.Res.Tells) {
			t.Errorf("%s: behind what was told is written", name)
		}
	}
}

func TestPlansAndCallsTurnNothing(t *testing.T) {
	before, callBefore := plan(3, 2, 10, 6), call(2, 1, 1, 3, -4)
	p, c := roomyPlan(before), roomyCall(callBefore)
	if !impl.PlnOk(p) || impl.PlnHome(p, 2) != 0 || !impl.CallOk(p, c) || impl.CallText(c) == "" {
		t.Fatal("the plan or the call is not ok")
	}
	tells := roomy([]int{1, 2, 3})
	if !impl.ResOk(impl.ResResult{Code: impl.ResDone, Tells: tells}) {
		t.Fatal("the result is not ok")
	}
	checkPlanAsItWas(t, "CallOk", p, before)
	checkCallAsItWas(t, "CallOk", c, callBefore)
	checkGiven(t, "ResOk", [][]int{tells}, [][]int{{1, 2, 3}})
}

func TestMessagesTurnNothing(t *testing.T) {
	before := plan(3, 2, 10, 6)
	some := []impl.PlnDone{done(4, impl.ResDone, 8), {}, done(1, impl.ResStopped)}
	for _, m := range []impl.MsgMsg{
		{Kind: impl.MsgWant, To: impl.MsgClerk, Call: call(2, 1, 1, 3, -4)},
		{Kind: impl.MsgFreeze, To: 1, Round: 7},
		{Kind: impl.MsgGive, To: impl.MsgClerk, From: 1, Round: 7, Vals: []int{3, 0, -2}, Seqs: []int{0, 300, 5}},
		{Kind: impl.MsgPact, To: 1, Round: 8, Vals: []int{30, 0, -7}, Done: some},
	} {
		p, given := roomyPlan(before), m
		given.Call, given.Vals, given.Seqs, given.Done = roomyCall(m.Call), roomy(m.Vals), roomy(m.Seqs), roomyDone(m.Done)
		if !impl.MsgOk(p, given) {
			t.Errorf("MsgOk(%v) is false", given)
		}
		checkPlanAsItWas(t, "MsgOk", p, before)
		checkCallAsItWas(t, "MsgOk", given.Call, m.Call)
		checkGiven(t, "MsgOk", [][]int{given.Vals, given.Seqs}, [][]int{m.Vals, m.Seqs})
		checkDoneAsItWas(t, "MsgOk", given.Done, m.Done)
	}
}

// Nothing is kept: what a caller does to a call that was read turns none that is read later.
func TestCallsThatAreReadAreNewMemory(t *testing.T) {
	for range 2 {
		c, ok := impl.CallRead("client 2 call 1 act 0 with 3 -4")
		if !ok || !sameCall(c, call(2, 1, 0, 3, -4)) {
			t.Fatalf("the call is %v", c)
		}
		scribble(c.Args)
	}
}
