package tests

import (
	"strings"
	"testing"

	"loop.example/concord/impl"
)

func TestP73TextsOfCalls(t *testing.T) {
	for text, c := range map[string]impl.PlnCall{
		"client 2 call 1 act 0 with 3 -4":    call(2, 1, 0, 3, -4),
		"client 0 call 1 act 0 with 0 0":     call(0, 1, 0, 0, 0),
		"client 3 call 300 act 3 with 9 9":   call(3, 300, 3, 9, 9),
		"client 3 call 300 act 3 with -9 -9": call(3, 300, 3, -9, -9),
		"client 1 call 10 act 2 with -1 7":   call(1, 10, 2, -1, 7),
	} {
		if got := impl.CallText(c); got != text {
			t.Errorf("CallText(%v) is %q, not %q", c, got, text)
		}
		if got, ok := impl.CallRead(text); !ok || !sameCall(got, c) {
			t.Errorf("CallRead(%q) is %v and %v", text, got, ok)
		}
	}
}

func TestP73ReadOfTextIsTheCall(t *testing.T) {
	for _, c := range okCalls() {
		text := impl.CallText(c)
		if got, ok := impl.CallRead(text); !ok || !sameCall(got, c) {
			t.Fatalf("CallRead(%q) is %v and %v, not %v", text, got, ok, c)
		}
	}
}

func TestP73TextOfWhatIsNoCall(t *testing.T) {
	for _, c := range wrongCalls() {
		if text := impl.CallText(c); text != "" {
			t.Errorf("CallText(%v) is %q", c, text)
		}
	}
}

func checkNoCall(t *testing.T, text string) {
	t.Helper()
	if c, ok := impl.CallRead(text); ok || !sameCall(c, impl.PlnCall{}) {
		t.Errorf("CallRead(%q) is %v and %v", text, c, ok)
	}
}

func TestP73WhatIsNoCallsText(t *testing.T) {
	for _, text := range []string{
		"", " ", "        ", "client", "client 0", "client 0 call 1", "client 0 call 1 act 0", "client 0 call 1 act 0 with", "client 0 call 1 act 0 with 0", "client 0 call 1 act 0 with 0 ",
		"client 0 call 1 act 0 with 0 0 0", "client 0 call 1 act 0 with 0 0 ", " client 0 call 1 act 0 with 0 0", "client 0 call 1 act 0 with  0", "client  0 call 1 act 0 with 0 0",
		"client 0 call 1 act 0 with 0 0\n", "client\t0 call 1 act 0 with 0 0", "client 0 call 1 act 0 with 0\x000",
		"Client 0 call 1 act 0 with 0 0", "clients 0 call 1 act 0 with 0 0", "client 0 calls 1 act 0 with 0 0", "client 0 call 1 acts 0 with 0 0", "client 0 call 1 act 0 and 0 0",
		"call 0 client 1 act 0 with 0 0", "client 0 act 1 call 0 with 0 0", "client 0 0 call 1 act with 0 0", "x 0 x 1 x 0 x 0 0", "0 0 0 1 0 0 0 0 0",
		"client 4 call 1 act 0 with 0 0", "client -1 call 1 act 0 with 0 0", "client -0 call 1 act 0 with 0 0", "client 00 call 1 act 0 with 0 0", "client +0 call 1 act 0 with 0 0", "client x call 1 act 0 with 0 0",
		"client 0 call 0 act 0 with 0 0", "client 0 call -1 act 0 with 0 0", "client 0 call 301 act 0 with 0 0", "client 0 call 01 act 0 with 0 0", "client 0 call +1 act 0 with 0 0", "client 0 call 1.0 act 0 with 0 0", "client 0 call  act 0 with 0 0",
		"client 0 call 1 act 4 with 0 0", "client 0 call 1 act -1 with 0 0", "client 0 call 1 act 01 with 0 0", "client 0 call 1 act +1 with 0 0", "client 0 call 1 act a with 0 0",
		"client 0 call 1 act 0 with 10 0", "client 0 call 1 act 0 with 0 10", "client 0 call 1 act 0 with -10 0", "client 0 call 1 act 0 with 0 -10", "client 0 call 1 act 0 with 00 0", "client 0 call 1 act 0 with 0 -0", "client 0 call 1 act 0 with +1 0", "client 0 call 1 act 0 with 0 01", "client 0 call 1 act 0 with 0 1x0", "client 0 call 1 act 0 with a b",
		"client 18446744073709551616 call 1 act 0 with 0 0", "client 0 call 18446744073709551617 act 0 with 0 0", "client 0 call 1 act 0 with 0 99999999999999999999",
		"client 0 call 1 act 0 with 0 \xff", "client 0 call \u0661 act 0 with 0 0", "done", "stop",
	} {
		checkNoCall(t, text)
	}
}

func TestP73LongTexts(t *testing.T) {
	const text = "client 0 call 1 act 0 with 0 0"
	for _, size := range []int{119, 120, 121, 1000, 100000} {
		more := size - len(text)
		checkNoCall(t, text+strings.Repeat(" ", more))
		checkNoCall(t, text+strings.Repeat("0", more))
		checkNoCall(t, strings.Repeat(" ", more)+text)
		checkNoCall(t, text+strings.Repeat(" 0", more/2))
		checkNoCall(t, "client "+strings.Repeat("0", more)+text[len("client "):])
		checkNoCall(t, strings.Repeat("c", size))
		checkNoCall(t, strings.Repeat(" ", size))
	}
}

// What is read of a text with one byte turned, put in or taken out is a call with just that text, or none.
func TestP73TextOfWhatIsRead(t *testing.T) {
	read := 0
	for _, text := range []string{"client 2 call 17 act 1 with 3 -4", "client 0 call 300 act 3 with -9 0"} {
		for _, near := range nearTexts(text, " -0123456789+clientwhax") {
			c, ok := impl.CallRead(near)
			if !ok {
				checkNoCall(t, near)
				continue
			}
			read++
			if impl.CallText(c) != near {
				t.Errorf("CallRead(%q) is %v, with the text %q", near, c, impl.CallText(c))
			}
		}
	}
	if read < 50 {
		t.Errorf("only %d were calls", read)
	}
}
