package lock_test

import (
	"math"
	"math/rand"
	"slices"
	"testing"

	"castellan/api"
	"castellan/lock"
	"castellan/mode"
	"castellan/token"
)

var (
	two   = api.Shape{Nodes: 2, Locks: 1, Slots: 1}
	three = api.Shape{Nodes: 3, Locks: 2, Slots: 2}
	five  = api.Counter{Value: 5, Version: 1}
)

// at is the place of a node.
func at(s api.Shape, me int, now int64) api.Place {
	return api.Place{Shape: s, Me: me, Limit: 3, Retry: 2, Far: 6, Now: now}
}

// still is a place that is.
func still(p api.Place) api.Place {
	p.Still = true
	return p
}

// open tells a new lock.
func open(t *testing.T, p api.Place, tree bool) api.Lock {
	t.Helper()
	l, e := lock.Open(p, tree, five)
	if e != api.OK {
		t.Fatalf("Open: %v", e)
	}
	return l
}

// copied is another lock with the same.
func copied(l api.Lock) api.Lock {
	l.Token.Over, l.Token.Wait, l.Token.Holds = slices.Clone(l.Token.Over), slices.Clone(l.Token.Wait), slices.Clone(l.Token.Holds)
	l.Known, l.Slots, l.Tries = slices.Clone(l.Known), slices.Clone(l.Slots), slices.Clone(l.Tries)
	return l
}

// same tells whether two locks are.
func same(a, b api.Lock) bool {
	return a.Tree == b.Tree && a.Has == b.Has && token.Same(a.Token, b.Token) && a.Last == b.Last && a.Own == b.Own && slices.Equal(a.Known, b.Known) && slices.Equal(a.Slots, b.Slots) && slices.Equal(a.Tries, b.Tries)
}

// sameLetter tells whether two letters are.
func sameLetter(a, b api.Letter) bool {
	x, y := a.Message, b.Message
	return a.To == b.To && x.Kind == y.Kind && x.Lock == y.Lock && x.Site == y.Site && x.Stat == y.Stat && x.Hop == y.Hop && x.Use == y.Use && x.Mode == y.Mode && x.Counter == y.Counter && token.Same(x.Token, y.Token) &&
		x.Stamp == y.Stamp && x.Epoch == y.Epoch && len(x.Reports)+len(y.Reports)+len(x.Backs)+len(y.Backs) == 0
}

// goes holds letters against what is wanted.
func goes(t *testing.T, what string, got []api.Letter, want ...api.Letter) {
	t.Helper()
	if !slices.EqualFunc(got, want, sameLetter) {
		t.Errorf("%s: %v, not %v", what, got, want)
	}
}

func wants(over int64, m api.Mode, prio int) api.Stat {
	return api.Stat{Over: over, Pending: true, Mode: m, Prio: prio}
}

func stat(to, l, site int, x api.Stat, hop int64) api.Letter {
	return api.Letter{To: to, Message: api.Message{Kind: api.MsgStat, Lock: l, Site: site, Stat: x, Hop: hop}}
}

func ack(to, l, site int, x api.Stat, hop int64) api.Letter {
	return api.Letter{To: to, Message: api.Message{Kind: api.MsgAck, Lock: l, Site: site, Stat: x, Hop: hop}}
}

func grant(to, l, site int, use int64, m api.Mode, hop int64, c api.Counter) api.Letter {
	return api.Letter{To: to, Message: api.Message{Kind: api.MsgGrant, Lock: l, Site: site, Use: use, Mode: m, Hop: hop, Counter: c}}
}

// pass is a letter of a token.
func pass(to, l int, x api.Token) api.Letter {
	return api.Letter{To: to, Message: api.Message{Kind: api.MsgToken, Lock: l, Token: x}}
}

// acquire acquires, without a refusal.
func acquire(t *testing.T, p api.Place, l api.Lock, m api.Mode, prio int) (api.Lock, int, []api.Letter) {
	t.Helper()
	was := copied(l)
	after, n, letters, e := lock.Acquire(p, l, api.Want{Mode: m, Prio: prio})
	if e != api.OK || !same(l, was) || lock.Check(p, after) != api.OK {
		t.Fatalf("Acquire: %v", e)
	}
	return after, n, letters
}

// hear hears a letter, without a refusal.
func hear(t *testing.T, p api.Place, l api.Lock, from int, x api.Letter) (api.Lock, []api.Letter) {
	t.Helper()
	was := copied(l)
	after, letters, e := lock.Hear(p, l, from, x.Message)
	if e != api.OK || !same(l, was) || lock.Check(p, after) != api.OK {
		t.Fatalf("Hear(%v): %v", x, e)
	}
	return after, letters
}

// TestOpen: P22.1, at its home it has the token.
func TestOpen(t *testing.T) {
	for _, n := range []int{0, 1} {
		for me := range 3 {
			p := at(three, me, 0)
			p.Lock = n
			l := open(t, p, true)
			want := api.Lock{Tree: true, Own: api.Owner{Node: n, Hop: 1}, Known: make([]api.Stat, 6), Slots: make([]api.Slot, 2), Tries: []api.Try{{Sent: -1}, {Sent: -1}}}
			if me == n {
				want.Has, want.Last, want.Token = true, 1, api.Token{Hop: 1, Over: make([]int64, 6), Counter: five}
			}
			if !same(l, want) || lock.Check(p, l) != api.OK || lock.Report(l) != (api.Report{Has: me == n, Hop: want.Last}) {
				t.Errorf("lock %d at %d: %v", n, me, l)
			}
		}
	}
	p := at(two, 1, 0)
	p.Shape.Locks, p.Lock = 4, 3
	if l := open(t, p, false); !l.Has || l.Tree {
		t.Error("the home is the lock modulo the nodes")
	}
	if l, e := lock.Open(at(two, 1, 0), false, api.Counter{Floor: 1}); e != api.ErrArg || !same(l, api.Lock{}) {
		t.Errorf("a counter that may not be: %v", e)
	}
}

// refuses holds all calls against ErrArg.
func refuses(t *testing.T, what string, p api.Place, l api.Lock) {
	t.Helper()
	a1, x1, e1 := lock.Settle(p, l)
	a2, n, x2, e2 := lock.Acquire(p, l, api.Want{})
	a3, x3, e3 := lock.End(p, l, api.Ticket{Slot: 9}, true)
	a4, e4 := lock.Change(p, l, api.Ticket{Slot: 9}, 0)
	v, e5 := lock.Value(p, l, api.Ticket{Slot: 9})
	a6, x6, e6 := lock.Tick(p, l)
	a7, x7, e7 := lock.Hear(p, l, 9, api.Message{})
	a8, ok, e8 := lock.Back(p, l, -1)
	for i, e := range []api.Errno{lock.Check(p, l), e1, e2, e3, e4, e5, e6, e7, e8} {
		if e != api.ErrArg {
			t.Errorf("%s, %d: %v", what, i, e)
		}
	}
	for _, a := range []api.Lock{a1, a2, a3, a4, a6, a7, a8} {
		if !same(a, api.Lock{}) {
			t.Errorf("%s: a lock beside an error", what)
		}
	}
	if len(x1)+len(x2)+len(x3)+len(x6)+len(x7) != 0 || n != 0 || v != 0 || ok {
		t.Errorf("%s: something beside an error", what)
	}
	for range lock.Wants(p, l) {
		t.Errorf("%s: something is wanted", what)
	}
}

// TestWrong: P22.1, places and locks that may not be.
func TestWrong(t *testing.T) {
	for i, change := range []func(*api.Place){
		func(p *api.Place) { p.Shape.Nodes = 65 }, func(p *api.Place) { p.Shape = api.Shape{} }, func(p *api.Place) { p.Me = -1 }, func(p *api.Place) { p.Me = 3 }, func(p *api.Place) { p.Lock = -1 }, func(p *api.Place) { p.Lock = 2 }, func(p *api.Place) { p.Limit = -1 }, func(p *api.Place) { p.Limit = 65 },
		func(p *api.Place) { p.Retry = 0 }, func(p *api.Place) { p.Retry = api.MaxTick + 1 }, func(p *api.Place) { p.Far = 0 }, func(p *api.Place) { p.Far = api.MaxTick + 1 }, func(p *api.Place) { p.Now = -1 }, func(p *api.Place) { p.Now = api.MaxTick + 1 },
	} {
		p := at(three, 1, 5)
		l := open(t, p, true)
		change(&p)
		refuses(t, "place "+string(rune('a'+i)), p, l)
		if _, e := lock.Open(p, true, five); e != api.ErrArg {
			t.Errorf("Open at place %d: %v", i, e)
		}
	}
	for i, change := range []func(*api.Lock){
		func(l *api.Lock) { l.Last = 0 }, func(l *api.Lock) { l.Last = 2 }, func(l *api.Lock) { l.Token.Hop = 2 }, func(l *api.Lock) { l.Last, l.Token.Hop = -1, -1 }, func(l *api.Lock) { l.Token = api.Token{} }, func(l *api.Lock) { l.Token.Over = l.Token.Over[:5] }, func(l *api.Lock) { l.Has, l.Last, l.Token = true, 0, api.Token{} },
		func(l *api.Lock) { l.Own.Node = 3 }, func(l *api.Lock) { l.Own.Hop = -1 }, func(l *api.Lock) { l.Known = l.Known[:5] }, func(l *api.Lock) { l.Known[5].Over = -1 }, func(l *api.Lock) { l.Slots = l.Slots[:1] }, func(l *api.Lock) { l.Slots[1].Use = 3 }, func(l *api.Lock) { l.Slots[1].Mode = 1 }, func(l *api.Lock) { l.Tries = l.Tries[:1] }, func(l *api.Lock) { l.Tries[1].Sent = -2 }, func(l *api.Lock) { l.Tries[0].Heard = -1 }, func(l *api.Lock) { l.Tries[0].Over = -1 },
	} {
		p := at(three, 0, 5)
		l := open(t, p, true)
		change(&l)
		refuses(t, "lock "+string(rune('a'+i)), p, l)
	}
}

// TestExample: P22.2, P22.3, P22.5.
func TestExample(t *testing.T) {
	p0, p1 := at(two, 0, 4), at(two, 1, 9)
	a, b := open(t, p0, false), open(t, p1, false)
	b, n, out := acquire(t, p1, b, api.ModeX, 0)
	goes(t, "Acquire", out, stat(0, 0, 1, wants(0, api.ModeX, 0), 1))
	if n != 0 || b.Tries[0] != (api.Try{Sent: 9, Heard: 9}) || b.Known[1] != wants(0, api.ModeX, 0) {
		t.Errorf("Acquire: %d %v", n, b)
	}
	a, out = hear(t, p0, a, 1, out[0])
	sent := api.Token{Hop: 2, Over: []int64{0, 0}, Holds: []api.Hold{{Site: 1, Use: 1, Mode: api.ModeX}}, Counter: five}
	goes(t, "Hear a status", out, pass(1, 0, sent), ack(1, 0, 1, wants(0, api.ModeX, 0), 1))
	if a.Has || a.Last != 2 || !token.Same(a.Token, sent) || a.Own != (api.Owner{Node: 1, Hop: 2}) || a.Tries[0].Heard != 4 {
		t.Errorf("it went: %v", a)
	}
	b, none := hear(t, p1, b, 0, out[0])
	goes(t, "Hear the token", none)
	if b.Slots[0].State != api.StateHeld || b.Slots[0].Counter != five || lock.Report(b) != (api.Report{Has: true, Hop: 2}) || b.Own != (api.Owner{Node: 1, Hop: 2}) {
		t.Errorf("it came: %v", b)
	}
	if v, e := lock.Value(p1, b, api.Ticket{Node: 77, Lock: -4, Use: 1}); v != 5 || e != api.OK {
		t.Errorf("Value: %d %v", v, e)
	}
	b, e := lock.Change(p1, b, api.Ticket{Use: 1}, -3)
	if e != api.OK || b.Token.Counter.Value != 2 {
		t.Errorf("Change: %v %v", b, e)
	}
	b, none = hear(t, p1, b, 0, out[0])
	goes(t, "Hear the token again", none)
	if b.Token.Counter.Value != 2 {
		t.Error("an old token is taken")
	}
	b, none, e = lock.End(p1, b, api.Ticket{Use: 1}, true)
	goes(t, "End", none)
	if e != api.OK || b.Slots[0].State != api.StateReleased || len(b.Token.Holds) != 0 || b.Token.Over[1] != 1 || b.Tries[0].Over != 1 {
		t.Errorf("End: %v %v", b, e)
	}
}

// TestHome: P22.2, where the token is all is granted at once.
func TestHome(t *testing.T) {
	p := at(three, 0, 3)
	l, n, out := acquire(t, p, open(t, p, false), api.ModeS, 2)
	goes(t, "Acquire", out)
	if n != 0 || l.Slots[0].State != api.StateHeld || l.Token.Holds[0] != (api.Hold{Site: 0, Use: 1, Mode: api.ModeS}) {
		t.Errorf("Acquire: %v", l)
	}
	l, n, _ = acquire(t, p, l, api.ModeX, 1)
	if n != 1 || l.Slots[1].State != api.StatePending || len(l.Token.Wait) != 1 {
		t.Errorf("Acquire: %v", l)
	}
	if _, _, _, e := lock.Acquire(p, l, api.Want{Mode: api.ModeIS}); e != api.ErrSlots {
		t.Errorf("Acquire: %v", e)
	}
	for _, w := range []api.Want{{}, {Mode: 6}, {Mode: 1, Prio: 4}, {Mode: 1, Due: -1}, {Mode: 1, Due: api.MaxTick + 1}} {
		if _, _, _, e := lock.Acquire(p, l, w); e != api.ErrArg {
			t.Errorf("Acquire(%v): %v", w, e)
		}
	}
	for _, c := range []struct {
		slot int
		use  int64
		held bool
		want api.Errno
	}{{0, 1, false, api.ErrHolds}, {1, 1, true, api.ErrPending}, {0, 2, true, api.ErrNone}, {2, 1, true, api.ErrRange}, {-1, 1, false, api.ErrRange}} {
		if x, out, e := lock.End(p, l, api.Ticket{Slot: c.slot, Use: c.use}, c.held); e != c.want || out != nil || !same(x, api.Lock{}) {
			t.Errorf("End(%v): %v", c, e)
		}
	}
	l, _, e := lock.End(p, l, api.Ticket{Use: 1}, true)
	if e != api.OK || l.Slots[1].State != api.StateHeld || l.Slots[1].Counter != five {
		t.Errorf("End: %v %v", l, e)
	}
	if _, _, e := lock.End(p, l, api.Ticket{Use: 1}, true); e != api.ErrEnded {
		t.Errorf("End: %v", e)
	}
	for _, c := range []struct {
		slot          int
		use, by       int64
		value, change api.Errno
	}{{1, 1, 0, api.OK, api.ErrArg}, {1, 1, -6, api.OK, api.ErrFloor}, {1, 1, math.MaxInt64, api.OK, api.ErrOver}, {0, 1, 1, api.ErrRight, api.ErrRight}, {0, 9, 1, api.ErrNone, api.ErrNone}, {2, 1, 1, api.ErrRange, api.ErrRange}} {
		x, e1 := lock.Change(p, l, api.Ticket{Slot: c.slot, Use: c.use}, c.by)
		_, e2 := lock.Value(p, l, api.Ticket{Slot: c.slot, Use: c.use})
		if e1 != c.change || e2 != c.value || !same(x, api.Lock{}) {
			t.Errorf("%v: %v %v", c, e1, e2)
		}
	}
}

// TestBounds: P22.1, places and messages at their bounds.
func TestBounds(t *testing.T) {
	least := api.Place{Shape: two, Me: 1, Retry: 1, Far: 1}
	most := api.Place{Shape: three, Me: 2, Lock: 1, Limit: api.MaxAge, Retry: api.MaxTick, Far: api.MaxTick, Now: api.MaxTick}
	for _, p := range []api.Place{least, most} {
		l := open(t, p, true)
		if e := lock.Check(p, l); e != api.OK {
			t.Errorf("%v: %v", p, e)
		}
		hear(t, p, l, 0, stat(0, p.Lock, 0, api.Stat{}, 0))
		hear(t, p, l, 0, grant(0, p.Lock, 0, api.MaxUse, api.ModeSIX, api.MaxHop, five))
	}
}

// TestSecond: P22.2, letters are of the lock whose they are.
func TestSecond(t *testing.T) {
	p := at(three, 0, 3)
	p.Lock = 1
	l, _, out := acquire(t, p, open(t, p, true), api.ModeS, 1)
	goes(t, "Acquire", out, stat(1, 1, 0, wants(0, api.ModeS, 1), 1))
	home := at(three, 1, 3)
	home.Lock = 1
	_, out = hear(t, home, open(t, home, true), 0, out[0])
	goes(t, "Hear", out, grant(0, 1, 0, 1, api.ModeS, 1, five), ack(0, 1, 0, wants(0, api.ModeS, 0), 1))
	if l, _ = hear(t, p, l, 1, out[0]); l.Slots[0].State != api.StateHeld {
		t.Errorf("granted: %v", l.Slots)
	}
}

// TestRights: P22.3, what is not held, or not in such a mode, or without the token.
func TestRights(t *testing.T) {
	p0, p1 := at(two, 0, 3), at(two, 1, 3)
	one := api.Ticket{Use: 1}
	for m := api.ModeIS; m <= api.ModeX; m++ {
		l, _, _ := acquire(t, p0, open(t, p0, false), m, 0)
		v, e1 := lock.Value(p0, l, one)
		_, e2 := lock.Change(p0, l, one, 1)
		if (e1 == api.OK) != (m >= api.ModeS) || e1 != api.OK && e1 != api.ErrRight || e1 == api.OK && v != 5 || (e2 == api.OK) != (m == api.ModeX) || e2 != api.OK && e2 != api.ErrRight {
			t.Errorf("held in %d: %v %v", m, e1, e2)
		}
		l, _, _ = acquire(t, p1, open(t, p1, false), m, 0)
		_, e1 = lock.Value(p1, l, one)
		_, e2 = lock.Change(p1, l, one, 1)
		if e1 != api.ErrRight || e2 != api.ErrRight {
			t.Errorf("pending in %d: %v %v", m, e1, e2)
		}
	}
	l, _, _ := acquire(t, p1, open(t, p1, false), api.ModeX, 0)
	l.Slots[0].State, l.Slots[0].Counter = api.StateHeld, api.Counter{Value: 8}
	v, e1 := lock.Value(p1, l, one)
	if _, e2 := lock.Change(p1, l, one, 1); v != 8 || e1 != api.OK || e2 != api.ErrRight {
		t.Errorf("without the token: %d %v %v", v, e1, e2)
	}
}

// TestOldToken: P22.5, a token is taken where there is none, if its Hop is above the last one.
func TestOldToken(t *testing.T) {
	p := at(two, 0, 4)
	home := open(t, p, false)
	k := func(hop int64) api.Letter {
		return pass(0, 0, api.Token{Hop: hop, Over: make([]int64, 2), Counter: api.Counter{Value: 9}})
	}
	if l, out := hear(t, p, home, 1, k(9)); !same(l, home) || len(out) != 0 {
		t.Errorf("it has one: %v", l.Token)
	}
	gone, _ := hear(t, p, home, 1, stat(0, 0, 1, wants(0, api.ModeX, 0), 1))
	for hop := range int64(3) {
		if l, out := hear(t, p, gone, 1, k(hop)); !same(l, gone) || len(out) != 0 {
			t.Errorf("at the Hop %d: %v", hop, l.Token)
		}
	}
	over := stat(0, 0, 1, api.Stat{Over: 1}, 1)
	gone, _ = hear(t, p, gone, 1, over)
	l, _ := hear(t, p, gone, 1, k(3))
	if !l.Has || l.Last != 3 || l.Own != (api.Owner{Node: 0, Hop: 3}) || l.Token.Counter.Value != 9 || l.Token.Over[1] != 1 {
		t.Errorf("a later one: %v", l)
	}
}

// TestBeside: P22.5, beside another one a packet tells so; Value without the token is what that said.
func TestBeside(t *testing.T) {
	p0, p2 := at(three, 0, 3), at(three, 2, 8)
	home, away := open(t, p0, false), open(t, p2, false)
	home, _, _ = acquire(t, p0, home, api.ModeS, 0)
	away, _, out := acquire(t, p2, away, api.ModeS, 1)
	goes(t, "Acquire", out, stat(0, 0, 4, wants(0, api.ModeS, 1), 1), stat(1, 0, 4, wants(0, api.ModeS, 1), 1))
	home, back := hear(t, p0, home, 2, out[0])
	goes(t, "Hear", back, grant(2, 0, 4, 1, api.ModeS, 1, five), ack(2, 0, 4, wants(0, api.ModeS, 0), 1))
	again, twice := hear(t, p0, home, 2, out[0])
	goes(t, "Hear it again", twice, grant(2, 0, 4, 1, api.ModeS, 1, five), ack(2, 0, 4, wants(0, api.ModeS, 0), 1))
	if !same(home, again) {
		t.Error("the same again changes something")
	}
	away, none := hear(t, at(three, 2, 11), away, 0, back[0])
	goes(t, "Hear the grant", none)
	if away.Slots[0].State != api.StateHeld || away.Tries[0].Heard != 11 || away.Own != (api.Owner{Node: 0, Hop: 1}) {
		t.Errorf("granted: %v", away)
	}
	if v, e := lock.Value(p2, away, api.Ticket{Use: 1}); v != 5 || e != api.OK {
		t.Errorf("Value: %d %v", v, e)
	}
	if _, e := lock.Change(p2, away, api.Ticket{Use: 1}, 1); e != api.ErrRight {
		t.Errorf("Change: %v", e)
	}
	_, twice = hear(t, p0, home, 2, stat(0, 0, 4, api.Stat{}, 1))
	goes(t, "Hear that it wants nothing", twice, ack(2, 0, 4, wants(0, api.ModeS, 0), 1))
	other, _, _ := acquire(t, at(three, 1, 8), open(t, at(three, 1, 8), false), api.ModeS, 1)
	if l, _ := hear(t, at(three, 1, 8), other, 0, back[0]); l.Slots[0].State != api.StatePending {
		t.Error("the grant of another node's site is taken")
	}
	ended, out, _ := lock.End(p2, away, api.Ticket{Use: 1}, true)
	goes(t, "End", out, stat(0, 0, 4, api.Stat{Over: 1}, 1), stat(1, 0, 4, api.Stat{Over: 1}, 1))
	if l, _ := hear(t, p2, ended, 0, back[0]); !slices.Equal(l.Slots, ended.Slots) {
		t.Error("one that ended is granted")
	}
	home, back = hear(t, p0, home, 2, out[0])
	goes(t, "Hear the end", back, ack(2, 0, 4, api.Stat{Over: 1}, 1))
	if len(home.Token.Holds) != 1 || home.Token.Over[4] != 1 {
		t.Errorf("the end: %v", home.Token)
	}
	ended, _ = hear(t, at(three, 2, 12), ended, 0, back[0])
	if ended.Tries[0] != (api.Try{Sent: 8, Heard: 12, Over: 1}) {
		t.Errorf("acknowledged: %v", ended.Tries)
	}
	for n := range lock.Wants(p2, ended) {
		t.Errorf("slot %d wants to be told", n)
	}
}

// TestWaits: P22.5, who waits is told so by the ack, with its urgency.
func TestWaits(t *testing.T) {
	p0 := at(three, 0, 3)
	home, _, _ := acquire(t, p0, open(t, p0, false), api.ModeX, 0)
	home, out := hear(t, p0, home, 1, stat(0, 0, 3, wants(4, api.ModeIX, 2), 1))
	goes(t, "Hear", out, ack(1, 0, 3, wants(4, api.ModeIX, 2), 1))
	if home.Known[3] != wants(4, api.ModeIX, 2) || home.Token.Over[3] != 4 {
		t.Errorf("learned: %v", home)
	}
	home, out, _ = lock.End(p0, home, api.Ticket{Use: 1}, true)
	goes(t, "End", out, grant(1, 0, 3, 5, api.ModeIX, 1, five))
	_, out = hear(t, p0, home, 1, stat(0, 0, 1, wants(0, api.ModeX, 2), 1))
	goes(t, "of an own site nothing is done", out)
}

// TestTree: P22.5, in a tree a status goes on, to where the token probably is.
func TestTree(t *testing.T) {
	p1, p2 := at(three, 1, 3), at(three, 2, 3)
	l := open(t, p1, true)
	_, _, out := acquire(t, p1, l, api.ModeX, 0)
	goes(t, "Acquire in a tree", out, stat(0, 0, 2, wants(0, api.ModeX, 0), 1))
	p := p1
	p.Now = 10
	l.Tries[0].Heard = 3
	_, _, out = acquire(t, p, l, api.ModeX, 0)
	goes(t, "it has just happened", out, stat(0, 0, 2, wants(0, api.ModeX, 0), 1))
	l.Own = api.Owner{Node: 2, Hop: 5}
	after, out := hear(t, p1, l, 0, stat(1, 0, 0, wants(2, api.ModeS, 3), 4))
	goes(t, "it goes on", out, stat(2, 0, 0, wants(2, api.ModeS, 3), 5))
	if after.Known[0] != wants(2, api.ModeS, 3) {
		t.Errorf("learned: %v", after.Known)
	}
	_, out = hear(t, p1, after, 0, stat(1, 0, 0, wants(1, api.ModeS, 3), 4))
	goes(t, "the same goes on, not what is known", out, stat(2, 0, 0, wants(1, api.ModeS, 3), 5))
	_, out = hear(t, p1, l, 0, stat(1, 0, 0, wants(2, api.ModeS, 3), 5))
	goes(t, "carried as far", out)
	_, out = hear(t, p1, l, 0, stat(1, 0, 4, wants(2, api.ModeS, 3), 1))
	goes(t, "to its origin", out)
	b := open(t, p2, false)
	b.Own = api.Owner{Node: 1, Hop: 5}
	_, out = hear(t, p2, b, 0, stat(2, 0, 0, wants(2, api.ModeS, 3), 4))
	goes(t, "one that broadcasts", out)
}

// TestFar: P22.4, far behind what was heard all nodes are told.
func TestFar(t *testing.T) {
	p := at(three, 1, 3)
	l, _, _ := acquire(t, p, open(t, p, true), api.ModeX, 0)
	x := wants(0, api.ModeX, 0)
	for now, want := range map[int64][]api.Letter{
		4: nil, 5: {stat(0, 0, 2, x, 1)}, 8: {stat(0, 0, 2, x, 1)}, 9: {stat(0, 0, 2, x, 1), stat(2, 0, 2, x, 1)}, 99: {stat(0, 0, 2, x, 1), stat(2, 0, 2, x, 1)},
	} {
		after, out, e := lock.Tick(at(three, 1, now), l)
		goes(t, "Tick", out, want...)
		if sent := after.Tries[0].Sent; e != api.OK || want != nil && sent != now || want == nil && sent != 3 {
			t.Errorf("at %d: %v %v", now, after.Tries, e)
		}
	}
	for _, now := range []int64{0, 4} {
		early, _, _ := acquire(t, at(three, 1, now), open(t, at(three, 1, now), true), api.ModeX, 0)
		_, out, _ := lock.Tick(at(three, 1, now), early)
		goes(t, "just told", out)
		early.Tries[0].Sent = -1
		_, out, _ = lock.Tick(at(three, 1, now), early)
		goes(t, "at once", out, stat(0, 0, 2, x, 1))
	}
}

// TestTick: P22.4, who is late, by Due; then it settles, or tells.
func TestTick(t *testing.T) {
	p := at(three, 1, 3)
	l := open(t, p, false)
	l, _, _, _ = lock.Acquire(p, l, api.Want{Mode: api.ModeX, Due: 5})
	l, _, _, _ = lock.Acquire(p, l, api.Want{Mode: api.ModeX, Due: 4})
	p.Now = 4
	l, out, e := lock.Tick(p, l)
	goes(t, "Tick", out, stat(0, 0, 3, api.Stat{Over: 1}, 1), stat(2, 0, 3, api.Stat{Over: 1}, 1))
	if e != api.OK || l.Slots[0].State != api.StatePending || l.Slots[1].State != api.StateLate || l.Known[3] != (api.Stat{Over: 1}) || l.Tries[1] != (api.Try{Sent: 4, Heard: 4}) {
		t.Errorf("Tick: %v %v", l, e)
	}
	p = still(at(three, 1, 5))
	l, out, _ = lock.Tick(p, l)
	goes(t, "Tick where it is still", out)
	if l.Slots[0].State != api.StateLate || l.Tries[0].Heard != 5 {
		t.Errorf("Tick where it is still: %v", l.Tries)
	}
	var heard []int64
	for n, h := range lock.Wants(p, l) {
		heard = append(heard, int64(n), h)
	}
	if !slices.Equal(heard, []int64{0, 5, 1, 4}) {
		t.Errorf("Wants: %v", heard)
	}
	for n := range lock.Wants(p, l) {
		if n != 0 {
			t.Errorf("first: %d", n)
		}
		break
	}
	p0 := at(three, 0, 3)
	home, _, _ := acquire(t, p0, open(t, p0, false), api.ModeS, 0)
	home, _, _, _ = lock.Acquire(p0, home, api.Want{Mode: api.ModeX, Due: 9})
	home, _ = hear(t, p0, home, 2, stat(0, 0, 5, wants(0, api.ModeIX, 0), 1))
	home, out, _ = lock.Tick(at(three, 0, 9), home)
	goes(t, "Tick at the token", out)
	if len(home.Token.Wait) != 1 || home.Token.Over[1] != 1 || home.Tries[1].Over != 1 {
		t.Errorf("Tick at the token: %v", home.Token)
	}
	for range lock.Wants(p0, home) {
		t.Error("where the token is somebody wants to be told")
	}
}

// TestStill: P22.1, where it is still nothing is granted, and nothing sent.
func TestStill(t *testing.T) {
	p := still(at(two, 0, 3))
	l, _, out := acquire(t, p, open(t, p, false), api.ModeX, 0)
	goes(t, "Acquire", out)
	if l.Slots[0].State != api.StatePending || len(l.Token.Wait)+len(l.Token.Holds) != 0 {
		t.Errorf("Acquire where it is still: %v", l)
	}
	same1, out, e := lock.Settle(p, l)
	goes(t, "Settle", out)
	if e != api.OK || !same(same1, l) {
		t.Errorf("Settle where it is still: %v", same1)
	}
	p.Still = false
	l, out, _ = lock.Settle(p, l)
	goes(t, "Settle then", out)
	if l.Slots[0].State != api.StateHeld {
		t.Errorf("Settle then: %v", l)
	}
	p1 := still(at(two, 1, 3))
	b, _, out := acquire(t, p1, open(t, p1, true), api.ModeS, 0)
	goes(t, "Acquire without the token", out)
	for range lock.Wants(p1, b) {
		return
	}
	t.Error("nobody wants to be told")
}

// TestBack: P22.5, the last sender takes it back, at the Hop that it sent, and nothing else.
func TestBack(t *testing.T) {
	p0 := at(two, 0, 4)
	a := open(t, p0, false)
	if l, ok, e := lock.Back(p0, a, 1); ok || e != api.OK || !same(l, a) {
		t.Errorf("Back of one that has it: %v", e)
	}
	a, out := hear(t, p0, a, 1, stat(0, 0, 1, wants(0, api.ModeX, 0), 1))
	for _, hop := range []int64{0, 1, 3, -1, math.MaxInt64} {
		if l, ok, e := lock.Back(p0, a, hop); ok || e != api.OK || !same(l, a) {
			t.Errorf("Back at %d: %v", hop, e)
		}
	}
	back, ok, e := lock.Back(p0, a, 2)
	want := copied(a)
	want.Has, want.Last, want.Token.Hop, want.Own = true, 3, 3, api.Owner{Node: 0, Hop: 3}
	if !ok || e != api.OK || !same(back, want) || lock.Check(p0, back) != api.OK {
		t.Errorf("Back: %v %v %v", back, ok, e)
	}
	_, again, _ := lock.Settle(p0, back)
	sent := out[0].Message.Token
	sent.Hop = 4
	goes(t, "it goes again", again, pass(1, 0, sent))
	b := open(t, at(two, 1, 0), false)
	if l, ok, _ := lock.Back(at(two, 1, 0), b, 0); ok || !same(l, b) {
		t.Error("Back of one that never sent it")
	}
	a.Last, a.Token.Hop = api.MaxHop, api.MaxHop
	if l, ok, e := lock.Back(p0, a, api.MaxHop); ok || e != api.OK || !same(l, a) {
		t.Errorf("Back at the last Hop: %v", e)
	}
	end := open(t, p0, false)
	end.Last, end.Token.Hop, end.Own.Hop = api.MaxHop, api.MaxHop, api.MaxHop
	end, out = hear(t, p0, end, 1, stat(0, 0, 1, wants(0, api.ModeX, 0), 1))
	goes(t, "at the last Hop it stays", out, ack(1, 0, 1, wants(0, api.ModeX, 0), api.MaxHop))
	if !end.Has || len(end.Token.Holds) != 1 {
		t.Errorf("at the last Hop: %v", end)
	}
}

// TestHearWrong: P22.5, messages that may not be.
func TestHearWrong(t *testing.T) {
	p := at(three, 0, 4)
	l := open(t, p, false)
	x := api.Message{Kind: api.MsgStat, Site: 3, Stat: wants(0, 1, 0), Hop: 1}
	g := api.Message{Kind: api.MsgGrant, Site: 0, Use: 1, Mode: 1, Hop: 1, Counter: five}
	k := api.Message{Kind: api.MsgToken, Token: api.Token{Hop: 9, Over: make([]int64, 6), Counter: five}}
	for i, c := range []struct {
		from   int
		m      api.Message
		change func(*api.Message)
	}{
		{-1, x, func(m *api.Message) {}}, {3, x, func(m *api.Message) {}}, {1, x, func(m *api.Message) { m.Lock = 1 }}, {1, x, func(m *api.Message) { m.Lock = -1 }}, {1, x, func(m *api.Message) { m.Kind = 0 }}, {1, x, func(m *api.Message) { m.Kind = api.MsgAsk }}, {1, x, func(m *api.Message) { m.Kind = api.MsgStart }},
		{1, x, func(m *api.Message) { m.Site = 6 }}, {1, x, func(m *api.Message) { m.Site = -1 }}, {1, x, func(m *api.Message) { m.Stat.Over = -1 }}, {1, x, func(m *api.Message) { m.Hop = -1 }}, {1, x, func(m *api.Message) { m.Kind, m.Hop = api.MsgAck, api.MaxHop+1 }}, {1, x, func(m *api.Message) { m.Kind, m.Stat.Mode = api.MsgAck, 6 }},
		{1, g, func(m *api.Message) { m.Use = 0 }}, {1, g, func(m *api.Message) { m.Mode = api.ModeX }}, {1, g, func(m *api.Message) { m.Mode = 0 }}, {1, g, func(m *api.Message) { m.Counter.Floor = 9 }}, {1, g, func(m *api.Message) { m.Site = 6 }}, {1, g, func(m *api.Message) { m.Hop = -1 }},
		{1, k, func(m *api.Message) { m.Token.Hop = -1 }}, {1, k, func(m *api.Message) { m.Token.Over = nil }}, {1, k, func(m *api.Message) { m.Lock = 1 }},
	} {
		c.change(&c.m)
		if after, out, e := lock.Hear(p, l, c.from, c.m); e != api.ErrArg || out != nil || !same(after, api.Lock{}) {
			t.Errorf("%d: %v", i, e)
		}
	}
}

// TestGuess: P22.5, by what is heard the guess gets better.
func TestGuess(t *testing.T) {
	p := at(three, 1, 4)
	l := open(t, p, true)
	for _, c := range []struct {
		from int
		m    api.Message
		want api.Owner
	}{
		{2, ack(1, 0, 0, api.Stat{}, 5).Message, api.Owner{Node: 2, Hop: 5}}, {0, ack(1, 0, 0, api.Stat{}, 5).Message, api.Owner{Node: 2, Hop: 5}}, {0, ack(1, 0, 3, api.Stat{}, 6).Message, api.Owner{Node: 0, Hop: 6}},
		{2, grant(1, 0, 0, 1, 1, 7, five).Message, api.Owner{Node: 2, Hop: 7}}, {0, grant(1, 0, 2, 1, 1, 7, five).Message, api.Owner{Node: 2, Hop: 7}}, {0, grant(1, 0, 2, 1, 1, 8, five).Message, api.Owner{Node: 0, Hop: 8}}, {2, stat(1, 0, 0, api.Stat{}, 9).Message, api.Owner{Node: 0, Hop: 8}},
	} {
		l, _, _ = lock.Hear(p, l, c.from, c.m)
		if l.Own != c.want {
			t.Errorf("behind %v: %v", c.m, l.Own)
		}
	}
	l.Tries[1].Over = 4
	l, _, _ = lock.Hear(p, l, 0, ack(1, 0, 3, api.Stat{Over: 2}, 6).Message)
	if l.Tries[1] != (api.Try{Sent: -1, Heard: 4, Over: 4}) || l.Tries[0].Over != 0 {
		t.Errorf("Over goes back: %v", l.Tries)
	}
}

// cluster is a lock at a few nodes, and letters on their way.
type cluster struct {
	t     *testing.T
	r     *rand.Rand
	s     api.Shape
	locks []api.Lock
	now   []int64
	way   []api.Letter
	from  []int
}

func (c *cluster) place(n int) api.Place { return at(c.s, n, c.now[n]) }

// put lays letters on their way, or loses them; a token is never doubled, as stamps see to.
func (c *cluster) put(from int, l []api.Letter) {
	for _, x := range l {
		c.way, c.from = append(c.way, x), append(c.from, from)
		if x.Message.Kind != api.MsgToken && c.r.Intn(6) == 0 {
			c.way, c.from = append(c.way, x), append(c.from, from)
		}
	}
}

// deliver lets a letter come, or be lost; of a token that is lost the last sender takes it back.
func (c *cluster) deliver() {
	if len(c.way) == 0 {
		return
	}
	i := c.r.Intn(len(c.way))
	x, from := c.way[i], c.from[i]
	c.way, c.from = slices.Delete(c.way, i, i+1), slices.Delete(c.from, i, i+1)
	if c.r.Intn(5) == 0 {
		if x.Message.Kind == api.MsgToken {
			back, ok, e := lock.Back(c.place(from), c.locks[from], x.Message.Token.Hop)
			if !ok || e != api.OK {
				c.t.Fatalf("not taken back: %v", e)
			}
			l, out, _ := lock.Settle(c.place(from), back)
			c.locks[from] = l
			c.put(from, out)
		}
		return
	}
	l, out, e := lock.Hear(c.place(x.To), c.locks[x.To], from, x.Message)
	if e != api.OK {
		c.t.Fatalf("Hear: %v", e)
	}
	c.locks[x.To] = l
	c.put(x.To, out)
}

// client lets a client of a node ask for something.
func (c *cluster) client(n int) {
	p, l, k := c.place(n), c.locks[n], c.r.Intn(c.s.Slots)
	x := api.Ticket{Slot: k, Use: l.Slots[k].Use}
	switch c.r.Intn(5) {
	case 0, 1:
		if after, _, out, e := lock.Acquire(p, l, api.Want{Mode: api.Mode(1 + c.r.Intn(5)), Prio: c.r.Intn(4), Due: int64(c.r.Intn(2)) * (p.Now + 5)}); e == api.OK {
			c.locks[n] = after
			c.put(n, out)
		}
	case 2, 3:
		if after, out, e := lock.End(p, l, x, c.r.Intn(3) > 0); e == api.OK {
			c.locks[n] = after
			c.put(n, out)
		}
	case 4:
		if after, e := lock.Change(p, l, x, int64(c.r.Intn(9)-4)); e == api.OK {
			c.locks[n] = after
		}
	}
}

// sound holds what all nodes have against P22.6.
func (c *cluster) sound() {
	var modes []api.Mode
	last, has := 0, 0
	for n, l := range c.locks {
		if l.Last > c.locks[last].Last || l.Has && l.Last == c.locks[last].Last {
			last = n
		}
		if l.Has {
			has++
		}
		if e := lock.Check(c.place(n), l); e != api.OK {
			c.t.Fatalf("no lock any more: %v", l)
		}
	}
	for n, l := range c.locks {
		for k, x := range l.Slots {
			if x.State != api.StateHeld {
				continue
			}
			modes = append(modes, x.Mode)
			if !slices.Contains(c.locks[last].Token.Holds, api.Hold{Site: n*c.s.Slots + k, Use: x.Use, Mode: x.Mode}) {
				c.t.Fatalf("%v of %d is not in %v", x, n, c.locks[last].Token)
			}
		}
	}
	if ok, _ := mode.Together(modes...); !ok || has > 1 || has == 1 && !c.locks[last].Has {
		c.t.Fatalf("held together: %v; %d have the token", modes, has)
	}
}

// TestApart: P22.6, whatever comes, in any order, or never.
func TestApart(t *testing.T) {
	r := rand.New(rand.NewSource(20))
	helds := 0
	for round := range 60 {
		c := &cluster{t: t, r: r, s: api.Shape{Nodes: 2 + r.Intn(3), Locks: 1, Slots: 1 + r.Intn(2)}}
		c.now = make([]int64, c.s.Nodes)
		for n := range c.s.Nodes {
			l, _ := lock.Open(c.place(n), round%2 == 0, five)
			c.locks = append(c.locks, l)
		}
		for range 300 {
			n := r.Intn(c.s.Nodes)
			switch r.Intn(6) {
			case 0, 1:
				c.client(n)
			case 2:
				c.now[n]++
				l, out, _ := lock.Tick(c.place(n), c.locks[n])
				c.locks[n] = l
				c.put(n, out)
			default:
				c.deliver()
			}
			c.sound()
		}
		for _, l := range c.locks {
			for _, x := range l.Slots {
				if x.State == api.StateHeld || x.State == api.StateReleased {
					helds++
				}
			}
		}
	}
	if helds < 30 {
		t.Errorf("only %d were ever held", helds)
	}
}
