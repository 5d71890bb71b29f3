package tests

import (
	"testing"

	"loop.example/concord/impl"
)

// The other tests go by the names, and would not see a value that is another one than the document's.
func TestNamesHaveTheirValues(t *testing.T) {
	for _, c := range []struct {
		name      string
		got, want int
	}{
		{"FrmPots", impl.FrmPots, 3},
		{"FrmArgs", impl.FrmArgs, 2},
		{"FrmMax", impl.FrmMax, 10000000},
		{"ValMax", impl.ValMax, 10000},
		{"ArgMax", impl.ArgMax, 9},
		{"ActTest", impl.ActTest, 1},
		{"ActAdd", impl.ActAdd, 2},
		{"ActPrint", impl.ActPrint, 3},
		{"ActStop", impl.ActStop, 4},
		{"ActMax", impl.ActMax, 6},
		{"ActMaxTest", impl.ActMaxTest, 3},
		{"ActMaxCoef", impl.ActMaxCoef, 2},
		{"ActMaxNum", impl.ActMaxNum, 20},
		{"ResDone", impl.ResDone, 1},
		{"ResStopped", impl.ResStopped, 2},
		{"ResOver", impl.ResOver, 3},
		{"ResMax", impl.ResMax, 999999999999},
		{"CatMax", impl.CatMax, 4},
		{"TrtMaxSites", impl.TrtMaxSites, 3},
		{"TrtMaxGive", impl.TrtMaxGive, 50},
		{"PlnMaxClients", impl.PlnMaxClients, 4},
		{"PlnMaxStart", impl.PlnMaxStart, 1000},
		{"PlnMaxSeq", impl.PlnMaxSeq, 300},
		{"PlnMaxRound", impl.PlnMaxRound, 200},
		{"MsgWant", impl.MsgWant, 1},
		{"MsgFreeze", impl.MsgFreeze, 2},
		{"MsgGive", impl.MsgGive, 3},
		{"MsgPact", impl.MsgPact, 4},
		{"MsgClerk", impl.MsgClerk, -1},
		{"WldCall", impl.WldCall, 1},
		{"WldTry", impl.WldTry, 2},
		{"WldDeaf", impl.WldDeaf, 3},
		{"WldBring", impl.WldBring, 4},
		{"WldLose", impl.WldLose, 5},
		{"WldTwice", impl.WldTwice, 6},
		{"WldTick", impl.WldTick, 7},
		{"WldFall", impl.WldFall, 8},
		{"WldRise", impl.WldRise, 9},
		{"WldClerk", impl.WldClerk, 10},
		{"WldMaxNet", impl.WldMaxNet, 30},
		{"WldMaxLog", impl.WldMaxLog, 100},
		{"RunMaxEvents", impl.RunMaxEvents, 400},
		{"CalmMaxRounds", impl.CalmMaxRounds, 20},
		{"CalmMaxBring", impl.CalmMaxBring, 120},
		{"DskMaxLines", impl.DskMaxLines, 200},
	} {
		if c.got != c.want {
			t.Errorf("%s is %d, not %d", c.name, c.got, c.want)
		}
	}
}
