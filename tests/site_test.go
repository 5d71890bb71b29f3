package tests

import (
	"slices"
	"testing"

	"loop.example/concord/impl"
)

func checkSite(t *testing.T, c siteCase, want bool, why string) {
	t.Helper()
	if got := impl.SitOk(c.p, c.s, c.at); got != want {
		t.Errorf("%s: SitOk(%v, %v, %d) is %v", why, c.p, c.s, c.at, got)
	}
}

func TestP35NewSitesHaveWhatThePlanLaysDown(t *testing.T) {
	for _, p := range okPlans() {
		s := impl.SitNew(p)
		want := impl.SitSite{Up: true, Base: p.Start, Added: []int{0, 0, 0}, Done: make([]impl.PlnDone, p.Clients)}
		if !sameSite(s, want) {
			t.Errorf("SitNew(%v) is %v", p, s)
		}
		for at := range p.Gives {
			checkSite(t, siteCase{p, s, at}, true, "a new site")
		}
		for _, at := range wrongSites(len(p.Gives)) {
			checkSite(t, siteCase{p, s, at}, false, "a place that there is not")
		}
	}
	for _, p := range wrongPlans() {
		if s := impl.SitNew(p); !isNoSite(s) {
			t.Errorf("SitNew(%v) is %v", p, s)
		}
	}
}

func TestSitOkAtTheEnds(t *testing.T) {
	fine := taker()
	checkSite(t, fine, true, "a site")
	for _, up := range []bool{true, false} {
		for _, frozen := range []bool{true, false} {
			checkSite(t, fine.up(up).frozen(frozen), true, "up or not, frozen or not")
		}
	}
	for _, round := range []int{0, 1, impl.PlnMaxRound - 1, impl.PlnMaxRound} {
		c := fine
		c.s.Round = round
		checkSite(t, c, true, "a round")
	}
	for _, base := range okVals() {
		c := fine
		c.s.Base = base
		checkSite(t, c, true, "a base")
	}
	for _, one := range okDones() {
		c := fine
		c.s.Done = dones(3, 2, one)
		checkSite(t, c, true, "what was done")
	}
}

func TestSitOkAtExactlyTheTreatysBound(t *testing.T) {
	for at, give := range takers().Gives {
		c := taker()
		c.at = at
		for _, sign := range []int{1, -1} {
			for v := range 2 {
				c.s.Added = make([]int, impl.FrmPots)
				c.s.Added[v] = sign * give
				checkSite(t, c, true, "just as far as it may go")
				c.s.Added = slices.Clone(c.s.Added)
				c.s.Added[v] += sign
				checkSite(t, c, false, "beyond the treaty by one")
			}
			c.s.Added = []int{0, 0, sign}
			checkSite(t, c, false, "a pinned pot")
		}
	}
}

// Guards of some act ask for pots together, so that each of them alone may keep, and both not.
func TestSitOkAsksForThePartsOfAllActs(t *testing.T) {
	c := taker()
	c.s.Added = []int{10, -10, 0}
	checkSite(t, c, true, "pots alone")
	c.p.Acts[3] = []impl.ActLine{asking(1, form(1, -1, 0, 0, 0, 0)), stopping()}
	checkSite(t, c, false, "pots together")
	c.s.Added = []int{10, 10, 0}
	checkSite(t, c, true, "pots together that keep")
	c.p.Acts[3] = []impl.ActLine{telling(pot(1))}
	checkSite(t, c, false, "a pot that is pinned by the last act")
}

func TestSitOkOfManySites(t *testing.T) {
	for _, c := range sites(60, 60) {
		checkSite(t, c, true, "one of many")
		for _, at := range wrongSites(len(c.p.Gives)) {
			c.at = at
			checkSite(t, c, false, "a place that there is not")
		}
	}
}

func TestSitOkOfWhatIsNotOk(t *testing.T) {
	for _, c := range wrongSiteCases() {
		checkSite(t, c, false, "not ok")
	}
	for _, p := range wrongPlans() {
		c := taker()
		c.p = p
		checkSite(t, c, false, "by a plan that is not ok")
		c.s.Done = nil
		checkSite(t, c, false, "by a plan that is not ok")
		checkSite(t, siteCase{p, impl.SitNew(p), 0}, false, "by a plan that is not ok")
	}
}

// checkNoAnswer asks that each of the functions answers nothing.
func checkNoAnswer(t *testing.T, c siteCase, one impl.PlnCall, m impl.MsgMsg, why string) {
	t.Helper()
	checkNoTry(t, c, one, why)
	checkNoHear(t, c, m, why)
	for _, up := range []bool{true, false} {
		if s := impl.SitFall(c.p, c.s, c.at, up); !isNoSite(s) {
			t.Errorf("%s: SitFall is %v", why, s)
		}
	}
}

func checkNoTry(t *testing.T, c siteCase, one impl.PlnCall, why string) {
	t.Helper()
	if s, r, says := c.try(one); !isNoSite(s) || !isNoResult(r) || len(says) != 0 {
		t.Errorf("%s: SitTry of %v is %v, %v, %v", why, one, s, r, says)
	}
	if impl.SitFree(c.p, c.s, c.at, one) {
		t.Errorf("%s: SitFree of %v is true", why, one)
	}
}

func checkNoHear(t *testing.T, c siteCase, m impl.MsgMsg, why string) {
	t.Helper()
	if s, says := c.hear(m); !isNoSite(s) || len(says) != 0 {
		t.Errorf("%s: SitHear of %v is %v, %v", why, m, s, says)
	}
}

func TestSitesWithWrongInputs(t *testing.T) {
	fine := taker()
	one, m := call(0, 3, 1, 1, 0), freezes(0, 4)
	if s, r, _ := fine.try(one); isNoSite(s) || isNoResult(r) {
		t.Fatalf("SitTry is %v, %v", s, r)
	}
	for _, c := range wrongSiteCases() {
		checkNoAnswer(t, c, one, m, "a site that is not ok")
		checkNoAnswer(t, c.up(false), one, m, "a site that is not ok, and not up")
	}
	for _, p := range wrongPlans() {
		c := fine
		c.p = p
		checkNoAnswer(t, c, one, m, "a plan that is not ok")
	}
	for _, c := range []siteCase{fine, fine.up(false), fine.frozen(true)} {
		for _, wrong := range append(wrongCalls(), call(3, 1, 0, 0, 0)) {
			checkNoTry(t, c, wrong, "a call that is not ok")
		}
		c.p.Acts = c.p.Acts[:3]
		checkNoTry(t, c, call(2, 1, 3, 0, 0), "an act that there is not")
		checkNoTry(t, c, call(1, 1, 3, 0, 0), "an act that there is not, of a client of another site")
	}
}

func TestSitHearOfMessagesThatAreNotOk(t *testing.T) {
	for _, c := range []siteCase{taker(), taker().up(false), taker().frozen(true)} {
		for _, m := range wrongMessages(c.p) {
			checkNoHear(t, c, m, "a message that is not ok")
		}
	}
}

func TestSitTryByHand(t *testing.T) {
	var n struct{ done, again, asked, nothing int }
	turn := &turning{state: 61}
	for _, c := range sites(62, 160) {
		for _, one := range c.calls(turn) {
			s, r, says := c.try(one)
			want, wantResult, wantSays := c.tryByHand(one)
			if !sameSite(s, want) || !sameResult(r, wantResult) || !sameMessages(says, wantSays) {
				t.Fatalf("SitTry of %v by %v is %v, %v, %v, not %v, %v, %v", one, c, s, r, says, want, wantResult, wantSays)
			}
			if !impl.SitOk(c.p, s, c.at) {
				t.Fatalf("SitTry of %v leaves %v, which is not ok", one, s)
			}
			switch {
			case len(says) > 0:
				n.asked++
			case r.Code == 0:
				n.nothing++
			case one.Seq == c.s.Done[one.Client].Seq:
				n.again++
			default:
				n.done++
			}
		}
	}
	if min(n.done, n.again, n.asked, n.nothing) < 100 {
		t.Errorf("too few of one kind: %+v", n)
	}
}

// tryCase is a call at the site of taker: what comes of it.
type tryCase struct {
	name  string
	one   impl.PlnCall
	r     impl.ResResult
	added []int
	asks  bool
}

func checkTries(t *testing.T, c siteCase, cases []tryCase) {
	t.Helper()
	for _, k := range cases {
		want := copyOfSite(c.s)
		want.Added = k.added
		if k.r.Code != 0 && k.one.Seq > want.Done[k.one.Client].Seq {
			want.Done[k.one.Client] = impl.PlnDone{Seq: k.one.Seq, Res: k.r}
		}
		var wantSays []impl.MsgMsg
		if k.asks {
			wantSays = []impl.MsgMsg{wants(k.one)}
		}
		s, r, says := c.try(k.one)
		if !sameSite(s, want) || !sameResult(r, k.r) || !sameMessages(says, wantSays) {
			t.Errorf("%s: SitTry is %v, %v, %v, not %v, %v, %v", k.name, s, r, says, want, k.r, wantSays)
		}
	}
}

func result(code int, tells ...int) impl.ResResult {
	return impl.ResResult{Code: code, Tells: tells}
}

func TestP29P30SitTryOfATaker(t *testing.T) {
	as, no := []int{-3, 0, 0}, impl.ResResult{}
	checkTries(t, taker(), []tryCase{
		{"the next one", call(0, 3, 0, 4, 0), result(impl.ResDone, 4), []int{-7, 0, 0}, false},
		{"the first one of another client", call(2, 1, 0, 4, 0), result(impl.ResDone, 4), []int{-7, 0, 0}, false},
		{"just as far as it may go", call(0, 3, 0, 7, 0), result(impl.ResDone, 7), []int{-10, 0, 0}, false},
		{"too far by one", call(0, 3, 0, 8, 0), no, as, true},
		{"the other way, as far as an argument goes", call(0, 3, 1, 9, 0), result(impl.ResDone), []int{6, 0, 0}, false},
		{"with nothing added", call(0, 3, 1, 0, 0), result(impl.ResDone), as, false},
		{"it stops", call(2, 1, 3, 0, 0), result(impl.ResStopped), as, false},
		{"a pinned pot", call(0, 3, 2, 0, 0), no, as, true},
		{"the last one", call(0, 2, 0, 4, 0), result(impl.ResDone, 3), as, false},
		{"the last one, as another act", call(0, 2, 3, 1, 1), result(impl.ResDone, 3), as, false},
		{"one earlier", call(0, 1, 0, 4, 0), no, as, false},
		{"one that skips a number", call(0, 4, 0, 4, 0), no, as, false},
		{"the greatest Seq", call(0, impl.PlnMaxSeq, 0, 4, 0), no, as, false},
		{"the second one of a client without a first one", call(2, 2, 0, 4, 0), no, as, false},
		{"the last one of a client of another site", call(1, 1, 0, 4, 0), no, as, false},
		{"the next one of a client of another site", call(1, 2, 0, 4, 0), no, as, false},
	})
	checkTries(t, taker().frozen(true), []tryCase{
		{"frozen: the next one", call(0, 3, 0, 4, 0), no, as, true},
		{"frozen: the first one", call(2, 1, 3, 0, 0), no, as, true},
		{"frozen: the last one", call(0, 2, 0, 4, 0), result(impl.ResDone, 3), as, false},
		{"frozen: one earlier", call(0, 1, 0, 4, 0), no, as, false},
		{"frozen: one that skips a number", call(0, 4, 0, 4, 0), no, as, false},
		{"frozen: a client of another site", call(1, 2, 0, 4, 0), no, as, false},
	})
	for _, down := range []siteCase{taker().up(false), taker().up(false).frozen(true)} {
		checkTries(t, down, []tryCase{
			{"not up: the next one", call(0, 3, 0, 4, 0), no, as, false},
			{"not up: too far", call(0, 3, 0, 8, 0), no, as, false},
			{"not up: the last one", call(0, 2, 0, 4, 0), no, as, false},
			{"not up: one that skips a number", call(0, 4, 0, 4, 0), no, as, false},
		})
	}
	over := taker()
	over.s.Base = []int{25, impl.ValMax, 2}
	over.p.Acts[1] = []impl.ActLine{adding(1, form(0, 0, 0, 1, 0, 0))}
	checkTries(t, over, []tryCase{
		{"surely over", call(0, 3, 1, 7, 0), result(impl.ResOver), as, false},
		{"maybe over", call(0, 3, 1, 6, 0), no, as, true},
	})
}

// The last site, and the last number that a client has.
func TestP29P30SitTryAtTheEnds(t *testing.T) {
	c := taker()
	c.at, c.s.Added = 1, []int{0, 0, 0}
	c.s.Done[1] = done(impl.PlnMaxSeq-1, impl.ResOver)
	no := impl.ResResult{}
	checkTries(t, c, []tryCase{
		{"the last number", call(1, impl.PlnMaxSeq, 0, 6, 0), result(impl.ResDone, 6), []int{-6, 0, 0}, false},
		{"too far by one, for this site", call(1, impl.PlnMaxSeq, 0, 7, 0), no, []int{0, 0, 0}, true},
		{"the number ahead of it", call(1, impl.PlnMaxSeq-1, 0, 1, 0), result(impl.ResOver), []int{0, 0, 0}, false},
		{"one earlier", call(1, impl.PlnMaxSeq-2, 0, 1, 0), no, []int{0, 0, 0}, false},
		{"client 0 is at home elsewhere", call(0, 3, 0, 1, 0), no, []int{0, 0, 0}, false},
	})
	c.s.Done[1] = done(impl.PlnMaxSeq, impl.ResDone, 5)
	checkTries(t, c, []tryCase{
		{"the last number once more", call(1, impl.PlnMaxSeq, 0, 6, 0), result(impl.ResDone, 5), []int{0, 0, 0}, false},
	})
}

func TestP29OnceMoreIsTheSame(t *testing.T) {
	did, skipped := 0, 0
	turn := &turning{state: 63}
	for _, c := range sites(64, 100) {
		for _, one := range c.calls(turn) {
			s, r, says := c.try(one)
			last := c.s.Done[one.Client].Seq
			if one.Seq > last+1 || one.Seq < last {
				skipped++
				if !sameSite(s, c.s) || !isNoResult(r) || len(says) != 0 {
					t.Fatalf("%v, behind call %d: SitTry is %v, %v, %v", one, last, s, r, says)
				}
			}
			if r.Code == 0 {
				continue
			}
			did++
			for _, again := range []siteCase{c.with(s), c.with(s).frozen(true)} {
				then, sameAgain, more := again.try(one)
				if !sameSite(then, again.s) || !sameResult(sameAgain, r) || len(more) != 0 {
					t.Fatalf("%v once more: SitTry of %v is %v, %v, %v, and was %v", one, again, then, sameAgain, more, r)
				}
			}
		}
	}
	if did < 200 || skipped < 500 {
		t.Errorf("only %d were done, and %d skipped a number", did, skipped)
	}
}

func TestP30TheNextCallIsDoneOrWanted(t *testing.T) {
	free, not := 0, 0
	turn := &turning{state: 65}
	for _, c := range sites(66, 160) {
		for _, one := range c.calls(turn) {
			if !c.s.Up || c.home(one.Client) != c.at || one.Seq != c.s.Done[one.Client].Seq+1 {
				continue
			}
			s, r, says := c.try(one)
			if impl.SitFree(c.p, c.s, c.at, one) {
				free++
				want, added, _ := c.alone(one).try()
				last := impl.PlnDone{Seq: one.Seq, Res: want}
				if !sameResult(r, want) || !slices.Equal(s.Added, added) || !sameDone(s.Done[one.Client], last) || len(says) != 0 {
					t.Fatalf("SitTry of %v by %v is %v, %v, %v, and LocTry %v, %v", one, c, s, r, says, want, added)
				}
				continue
			}
			not++
			if !sameSite(s, c.s) || !isNoResult(r) || !sameMessages(says, []impl.MsgMsg{wants(one)}) {
				t.Fatalf("SitTry of %v by %v is %v, %v, %v", one, c, s, r, says)
			}
			if !impl.MsgOk(c.p, says[0]) {
				t.Fatalf("%v is said, which is not ok", says[0])
			}
		}
	}
	if free < 100 || not < 100 {
		t.Errorf("only %d were free, and %d not", free, not)
	}
}

// SitFree asks neither where the client is at home, nor for Seq.
func TestSitFreeByHand(t *testing.T) {
	free, not := 0, 0
	turn := &turning{state: 67}
	for _, c := range sites(68, 100) {
		for _, one := range c.calls(turn) {
			_, _, could := c.alone(one).byHand()
			want := could && c.s.Up && !c.s.Frozen
			if got := impl.SitFree(c.p, c.s, c.at, one); got != want {
				t.Fatalf("SitFree of %v by %v is %v", one, c, got)
			}
			if want {
				free++
			} else if could {
				not++
			}
		}
	}
	if free < 300 || not < 100 {
		t.Errorf("only %d were free, and %d not up or frozen", free, not)
	}
}

func TestSitFreeOfATaker(t *testing.T) {
	for _, k := range []struct {
		name string
		c    siteCase
		one  impl.PlnCall
		want bool
	}{
		{"the next one", taker(), call(0, 3, 0, 7, 0), true},
		{"too far by one", taker(), call(0, 3, 0, 8, 0), false},
		{"a client of another site", taker(), call(1, 2, 0, 7, 0), true},
		{"any number", taker(), call(0, impl.PlnMaxSeq, 0, 7, 0), true},
		{"a pinned pot", taker(), call(0, 3, 2, 0, 0), false},
		{"it stops", taker(), call(0, 3, 3, 0, 0), true},
		{"not up", taker().up(false), call(0, 3, 0, 1, 0), false},
		{"frozen", taker().frozen(true), call(0, 3, 0, 1, 0), false},
		{"frozen, and it stops", taker().frozen(true), call(0, 3, 3, 0, 0), false},
	} {
		if got := impl.SitFree(k.c.p, k.c.s, k.c.at, k.one); got != k.want {
			t.Errorf("%s: SitFree is %v", k.name, got)
		}
	}
}

func TestP34FallsTurnNothingButUp(t *testing.T) {
	for _, c := range sites(69, 100) {
		for _, up := range []bool{true, false} {
			s := impl.SitFall(c.p, c.s, c.at, up)
			if !sameSite(s, c.up(up).s) {
				t.Fatalf("SitFall of %v, up %v, is %v", c, up, s)
			}
		}
	}
}

// What a site had ahead of a fall and a rise it has behind them, and what it does with a call or a message is the same.
func TestP34BehindAFallAndARise(t *testing.T) {
	turn := &turning{state: 70}
	for _, c := range sites(71, 40) {
		c = c.up(true)
		risen := c.with(impl.SitFall(c.p, impl.SitFall(c.p, c.s, c.at, false), c.at, true))
		if !sameSite(risen.s, c.s) {
			t.Fatalf("%v has fallen and risen, and is %v", c, risen.s)
		}
		for _, one := range c.calls(turn) {
			s, r, says := c.try(one)
			then, again, more := risen.try(one)
			if !sameSite(s, then) || !sameResult(r, again) || !sameMessages(says, more) {
				t.Fatalf("%v, behind a fall and a rise: %v, %v, %v, and was %v, %v, %v", one, then, again, more, s, r, says)
			}
		}
	}
}
