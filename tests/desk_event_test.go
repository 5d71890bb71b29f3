package tests

import (
	"fmt"
	"slices"
	"strings"
	"testing"

	"loop.example/concord/impl"
)

// wordsOfEvents have so many numbers behind them.
func wordsOfEvents() map[string]int {
	return map[string]int{
		"call": 4, "try": 1, "deaf": 1, "bring": 1, "lose": 1, "twice": 1, "tick": 0, "fall": 1, "rise": 1, "clerkfalls": 0, "clerkrises": 0,
	}
}

func checkEvent(t *testing.T, line string, want impl.WldEvent) {
	t.Helper()
	if e, ok := impl.DskEvent(line); !ok || !sameEvent(e, want) {
		t.Errorf("DskEvent(%q) is %v and %v, not %v", line, e, ok, want)
	}
}

func checkNoEvent(t *testing.T, line string) {
	t.Helper()
	if e, ok := impl.DskEvent(line); ok || !sameEvent(e, impl.WldEvent{}) {
		t.Errorf("DskEvent(%q) is %v and %v", line, e, ok)
	}
}

func TestEachWordWithItsEvent(t *testing.T) {
	for line, want := range map[string]impl.WldEvent{
		"call 0 0 0 0":   calling(0, 0, 0, 0),
		"call 2 1 8 -9":  calling(2, 1, 8, -9),
		"call 3 3 -1 10": calling(3, 3, -1, 10),
		"try 0":          event(impl.WldTry, 0),
		"try 3":          event(impl.WldTry, 3),
		"deaf 1":         event(impl.WldDeaf, 1),
		"bring 29":       event(impl.WldBring, 29),
		"lose 4":         event(impl.WldLose, 4),
		"twice 10":       event(impl.WldTwice, 10),
		"tick":           event(impl.WldTick, 0),
		"fall 2":         event(impl.WldFall, 2),
		"rise 1":         event(impl.WldRise, 1),
		"clerkfalls":     event(impl.WldClerk, 0),
		"clerkrises":     event(impl.WldClerk, 1),
	} {
		checkEvent(t, line, want)
	}
}

// What a line is does not hang on a world: numbers may be beyond all that there is.
func TestNumbersOfEvents(t *testing.T) {
	const most = 999999999999
	checkEvent(t, "call 999999999999 999999999999 999999999999 -999999999999", calling(most, most, most, -most))
	checkEvent(t, "call 0 100000000000 -100000000000 1", calling(0, 100000000000, -100000000000, 1))
	for word, numbers := range wordsOfEvents() {
		if numbers != 1 {
			continue
		}
		for _, n := range []int{0, 1, 9, 10, 99, 400, 100000000000, most} {
			checkEvent(t, fmt.Sprint(word, " ", n), event(eventKinds()[word], n))
		}
	}
	for _, number := range []string{
		"1000000000000", "-1000000000000", "9999999999999", "000000000001", "0000000000000", "18446744073709551616", "99999999999999999999", "00", "01", "-0", "-00", "-01", "+1", "+0", "--1", "-", "", "1.0", "0x1", "1_0", "1e1", "x", "1x0", "\u0661", "\xff", "1\n", "\t1", "1\x00",
	} {
		for word, numbers := range wordsOfEvents() {
			for at := range numbers {
				words := slices.Repeat([]string{"0"}, numbers)
				words[at] = number
				checkNoEvent(t, word+" "+strings.Join(words, " "))
			}
		}
	}
}

func TestNumbersBelowNoughtOfEvents(t *testing.T) {
	for _, number := range []string{"-1", "-2", "-10", "-999999999999"} {
		for word, numbers := range wordsOfEvents() {
			for at := range numbers {
				words := slices.Repeat([]string{"0"}, numbers)
				words[at] = number
				line := word + " " + strings.Join(words, " ")
				if at < 2 {
					checkNoEvent(t, line)
				} else if e, ok := impl.DskEvent(line); !ok || fmt.Sprint(e.Args[at-2]) != number || e.Args[3-at] != 0 {
					t.Errorf("DskEvent(%q) is %v and %v", line, e, ok)
				}
			}
		}
	}
}

func TestTooFewAndTooManyNumbersOfEvents(t *testing.T) {
	for word, numbers := range wordsOfEvents() {
		for many := range 12 {
			line := word + strings.Repeat(" 0", many)
			_, ok := impl.DskEvent(line)
			if ok != (many == numbers) {
				t.Errorf("DskEvent(%q) is %v", line, ok)
			}
			if many != numbers {
				checkNoEvent(t, line)
			}
		}
	}
}

func TestSpacesAndOtherWordsOfEvents(t *testing.T) {
	for word, numbers := range wordsOfEvents() {
		line := word + strings.Repeat(" 1", numbers)
		for _, none := range []string{
			" " + line, line + " ", line + "\n", line + "\x00", "\t" + line, line + " x", "x " + line, strings.ToUpper(line), strings.Replace(line, " ", "\t", 1) + " ", "x" + line, word + "s" + line[len(word):], word[1:] + line[len(word):], line + " " + line,
		} {
			checkNoEvent(t, none)
		}
		for at := range len(line) {
			if line[at] == ' ' {
				checkNoEvent(t, line[:at]+" "+line[at:])
			}
		}
	}
	for _, line := range append(notLines(), example()...) {
		checkNoEvent(t, line)
	}
}

func TestLongLinesOfEvents(t *testing.T) {
	for _, size := range []int{119, 120, 121, 1000, 100000} {
		for word := range wordsOfEvents() {
			for _, text := range []string{" ", "0", " 0", "a", "\x00"} {
				checkNoEvent(t, (word + strings.Repeat(text, size))[:size])
				checkNoEvent(t, (word + " " + strings.Repeat(text, size))[:size])
			}
			checkNoEvent(t, strings.Repeat(" ", size)+word)
		}
	}
}

// Lines with one byte turned, put in or taken out.
func TestLinesNearEvents(t *testing.T) {
	t.Parallel()
	ones, nones := 0, 0
	for word, numbers := range wordsOfEvents() {
		for _, number := range []string{" 0", " 10", " -7"} {
			for _, near := range append(nearLines(word+strings.Repeat(number, numbers)), word+strings.Repeat(number, numbers)) {
				want, ok := eventByHand(near)
				if ok {
					ones++
					checkEvent(t, near, want)
				} else {
					nones++
					checkNoEvent(t, near)
				}
			}
		}
	}
	if ones < 500 || nones < 5000 {
		t.Errorf("%d were ones, and %d were none", ones, nones)
	}
}

func sixMore() []string {
	return []string{" 0 0 0 0 0 0", " 1 2 3 4 5 6", " -1 -2 -3 -4 -5 -6", " 999999999999 0 0 0 0 0", " 7 7 7 7 7 7"}
}

func TestP77SixNumbersMoreBehindALine(t *testing.T) {
	turn := &turning{state: 302}
	for word, numbers := range wordsOfEvents() {
		for range 50 {
			line := word
			for range numbers {
				line += fmt.Sprint(" ", max(0, turn.next(30)))
			}
			if _, ok := impl.DskEvent(line); !ok {
				t.Fatalf("DskEvent(%q) is false", line)
			}
			for _, six := range append(sixMore(), wordsByHand("", []int{turn.next(9), turn.next(9), turn.next(9), turn.next(9), turn.next(9), turn.next(9)})) {
				checkNoEvent(t, line+six)
			}
		}
	}
}

// In a plan such a line is wrong, but for gives and start, which take more numbers than a plan that is ok has: none of these is read either.
func TestP77SixNumbersMoreBehindALineOfAPlan(t *testing.T) {
	lines := append(example(), "stop")
	for at, line := range lines {
		for _, six := range sixMore() {
			turned := slices.Clone(lines)
			turned[at] = line + six
			want := at + 1
			if at == 1 || at == 2 {
				want = len(lines) + 1
			}
			checkTold(t, turned, want)
		}
	}
}
