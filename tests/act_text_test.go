package tests

import (
	"slices"
	"strings"
	"testing"

	"loop.example/concord/impl"
)

func TestP60TextsOfLines(t *testing.T) {
	for text, l := range map[string]impl.ActLine{
		"test 2 1x0 -1a0 0":                   asking(2, form(1, 0, 0, -1, 0, 0)),
		"test 1 0":                            asking(1, number(0)),
		"test 6 -2x0 -2x1 -2x2 -2a0 -2a1 -20": asking(6, form(-2, -2, -2, -2, -2, -20)),
		"add 0 -1a0 0":                        adding(0, form(0, 0, 0, -1, 0, 0)),
		"add 2 2x0 2x1 2x2 2a0 2a1 20":        adding(2, form(2, 2, 2, 2, 2, 20)),
		"add 1 1":                             adding(1, number(1)),
		"print 1x2 0":                         telling(pot(2)),
		"print -7":                            telling(number(-7)),
		"stop":                                stopping(),
	} {
		if got := impl.ActText(l); got != text {
			t.Errorf("ActText(%v) is %q, not %q", l, got, text)
		}
		if got, ok := impl.ActRead(text); !ok || !sameLine(got, l) {
			t.Errorf("ActRead(%q) is %v and %v", text, got, ok)
		}
	}
}

func TestP60ReadOfTextIsTheLine(t *testing.T) {
	for _, l := range okLines() {
		text := impl.ActText(l)
		if got, ok := impl.ActRead(text); !ok || !sameLine(got, l) {
			t.Fatalf("ActRead(%q) is %v and %v, not %v", text, got, ok, l)
		}
	}
}

func TestP60TextOfWhatIsNoLine(t *testing.T) {
	for _, l := range wrongLines() {
		if text := impl.ActText(l); text != "" {
			t.Errorf("ActText(%v) is %q", l, text)
		}
	}
}

func checkNoLine(t *testing.T, text string) {
	t.Helper()
	if l, ok := impl.ActRead(text); ok || !sameLine(l, impl.ActLine{}) {
		t.Errorf("ActRead(%q) is %v and %v", text, l, ok)
	}
}

func TestP60WhatIsNoLinesText(t *testing.T) {
	for _, text := range []string{
		"", " ", "  ", "test", "add", "print", "test ", "add ", "print ", "stop ", " stop", "stop 0", "stop 1x0 0", "stop stop",
		"Stop", "STOP", "halt", "tests 1 0", "prin 0", "ad 0 0", "0", "1 0", "1x0 0", "done",
		"test 1", "test 0 0", "test 7 0", "test -1 0", "test 10 0", "test 01 0", "test +1 0", "test 1.0 0", "test x 0", "test 1x0 0",
		"test  1 0", "test 1  0", "test 1 0 ", " test 1 0", "test\t1 0", "test 1\n0", "test 1 0\n", "test 1 0 0", "test 1 2 0", "test 1 1x0",
		"add 0", "add 3 0", "add -1 0", "add -0 0", "add 00 0", "add +0 0", "add x0 0", "add 0 0 0", "add 0  0", "add 0 0 ", "add 0 1 2",
		"print 0 0", "print  0", "print 0 ", "print 1x0", "print 0 1x0", "print 1x3 0", "print 1a2 0", "print 0x0 0", "print 1x0 00", "print 1x0 +1",
		"print 1x0 1x0 0", "print 1x1 1x0 0", "print 1a0 1x0 0", "print 01x0 0", "print 1x00 0", "print -0", "print x0 0", "print -x0 0",
		"print 3x0 0", "print -3x2 0", "print 3a0 0", "print -3a1 0", "print 21", "print -21", "add 0 3x1 0", "add 0 21", "test 1 -3a0 0", "test 1 -21",
		"print 99999999999999999999", "test 99999999999999999999 0", "add 18446744073709551616 0", "print 10000000",
		"print 1X0 0", "print \xff", "stop\x00", "print \u0661", "test 1 1x0 0;add 0 1",
	} {
		checkNoLine(t, text)
	}
}

func TestP60LongTexts(t *testing.T) {
	for _, size := range []int{119, 120, 121, 1000, 100000} {
		checkNoLine(t, "stop"+strings.Repeat(" ", size-4))
		checkNoLine(t, "print "+strings.Repeat("0", size-6))
		checkNoLine(t, "test 1"+strings.Repeat(" 1x0", size/4)+" 0")
		checkNoLine(t, strings.Repeat("s", size))
	}
}

// What is read of a text with one byte turned, put in or taken out is a line with just that text, or none.
func TestP60TextOfWhatIsRead(t *testing.T) {
	read := 0
	for _, text := range []string{"test 2 1x0 -1a0 0", "add 0 -1a0 10", "print 1x0 -1x2 2a1 20", "stop"} {
		for _, near := range nearTexts(text, " -0123456789xadtesprinto+") {
			l, ok := impl.ActRead(near)
			if !ok {
				checkNoLine(t, near)
				continue
			}
			read++
			if impl.ActText(l) != near || !impl.ActOk([]impl.ActLine{l}) {
				t.Errorf("ActRead(%q) is %v, with the text %q", near, l, impl.ActText(l))
			}
		}
	}
	if read < 50 {
		t.Errorf("only %d were lines", read)
	}
}

// nearTexts are all with one byte more, one less, or another one.
func nearTexts(text, letters string) []string {
	var list []string
	for at := range len(text) + 1 {
		for _, letter := range strings.Split(letters, "") {
			list = append(list, text[:at]+letter+text[at:])
			if at < len(text) {
				list = append(list, text[:at]+letter+text[at+1:])
			}
		}
		if at < len(text) {
			list = append(list, text[:at]+text[at+1:])
		}
	}
	return list
}

func TestP65TextsOfResults(t *testing.T) {
	for text, r := range map[string]impl.ResResult{
		"done":                            {Code: impl.ResDone},
		"stopped":                         {Code: impl.ResStopped},
		"over":                            {Code: impl.ResOver},
		"done 0":                          {Code: impl.ResDone, Tells: []int{0}},
		"done 5 -7 0":                     {Code: impl.ResDone, Tells: []int{5, -7, 0}},
		"done 999999999999 -999999999999": {Code: impl.ResDone, Tells: []int{impl.ResMax, -impl.ResMax}},
		"done" + strings.Repeat(" -999999999999", impl.ActMax): {
			Code: impl.ResDone, Tells: slices.Repeat([]int{-impl.ResMax}, impl.ActMax)},
	} {
		if got := impl.ResText(r); got != text {
			t.Errorf("ResText(%v) is %q, not %q", r, got, text)
		}
		if got, ok := impl.ResRead(text); !ok || !sameResult(got, r) {
			t.Errorf("ResRead(%q) is %v and %v", text, got, ok)
		}
	}
}

func TestP65ReadOfTextIsTheResult(t *testing.T) {
	for _, r := range okResults() {
		text := impl.ResText(r)
		if got, ok := impl.ResRead(text); !ok || !sameResult(got, r) {
			t.Errorf("ResRead(%q) is %v and %v, not %v", text, got, ok, r)
		}
	}
}

func TestP65TextOfWhatIsNoResult(t *testing.T) {
	for _, r := range wrongResults() {
		if text := impl.ResText(r); text != "" {
			t.Errorf("ResText(%v) is %q", r, text)
		}
	}
}

func checkNoResult(t *testing.T, text string) {
	t.Helper()
	if r, ok := impl.ResRead(text); ok || !sameResult(r, impl.ResResult{}) {
		t.Errorf("ResRead(%q) is %v and %v", text, r, ok)
	}
}

func TestP65WhatIsNoResultsText(t *testing.T) {
	for _, text := range []string{
		"", " ", "done ", " done", "Done", "don", "dones", "stop", "stopped ", "overs", "none", "0", "1", "1 2",
		"stopped 0", "stopped 1 2", "over 0", "over -1", "over over", "done done", "done over",
		"done  1", "done 1 ", "done 1  2", "done\t1", "done 1\n", "done 01", "done 00", "done -0", "done +1", "done 1.0", "done x", "done 1x0 0", "done 1e3", "done 0x1",
		"done 1000000000000", "done -1000000000000", "done 99999999999999999999", "done -99999999999999999999",
		"done 1 2 3 4 5 6 7", "done 0 0 0 0 0 0 0", "done \xff", "done\x00", "done 1_0",
	} {
		checkNoResult(t, text)
	}
	for _, size := range []int{119, 120, 121, 1000, 100000} {
		checkNoResult(t, "done"+strings.Repeat(" ", size-4))
		checkNoResult(t, "done "+strings.Repeat("0", size-5))
		checkNoResult(t, "done"+strings.Repeat(" 1", size/2))
	}
}

func TestP65TextOfWhatIsRead(t *testing.T) {
	read := 0
	for _, text := range []string{"done 10 -7 0", "done", "stopped", "over"} {
		for _, near := range nearTexts(text, " -0123456789+") {
			r, ok := impl.ResRead(near)
			if !ok {
				checkNoResult(t, near)
				continue
			}
			read++
			if impl.ResText(r) != near {
				t.Errorf("ResRead(%q) is %v, with the text %q", near, r, impl.ResText(r))
			}
		}
	}
	if read < 50 {
		t.Errorf("only %d were results", read)
	}
}
