package round_test

import (
	"math"
	"math/rand"
	"slices"
	"testing"

	"castellan/api"
	"castellan/node"
	"castellan/round"
	"castellan/world"
)

// config is one of some nodes, with a lock that broadcasts.
func config(nodes int) api.Config {
	return api.Config{Shape: api.Shape{Nodes: nodes, Locks: 1, Slots: 1}, Forms: []api.Form{{Counter: api.Counter{Value: 5}}}, Limit: 2, Retry: 2, Far: 6, Suspect: 9, Apart: 3}
}

// wide is one of two locks, one of them a tree, and two slots.
func wide(nodes int) api.Config {
	c := config(nodes)
	c.Shape.Locks, c.Shape.Slots = 2, 2
	c.Forms = append(c.Forms, api.Form{Tree: true})
	return c
}

// play is the world behind some acts.
func play(t *testing.T, c api.Config, l ...api.Act) *world.World {
	t.Helper()
	w, e := world.Play(c, 200000, 20, l...)
	if e != api.OK {
		t.Fatalf("Play: %v", e)
	}
	return w
}

// keep is a keeper of a world.
func keep(t *testing.T, w *world.World, patience int) *round.Keeper {
	t.Helper()
	k, e := round.New(w, patience)
	if e != api.OK || k == nil || k.World() != w {
		t.Fatalf("New: %v", e)
	}
	return k
}

func acquire(n, l int, m api.Mode) api.Act {
	return api.Act{Kind: api.ActAsk, Node: n, Ask: api.Ask{Kind: api.AskAcquire, Lock: l, Mode: m}}
}

// kinds tells the kinds of the acts behind some number of notes, and their nodes.
func kinds(w *world.World, from int) [][2]int {
	var l [][2]int
	for i, n := range w.Notes() {
		if i >= from {
			l = append(l, [2]int{int(n.Act.Kind), n.Act.Node})
		}
	}
	return l
}

// TestExample: P29.1, P29.2.
func TestExample(t *testing.T) {
	w := play(t, config(2), acquire(0, 0, api.ModeX), acquire(1, 0, api.ModeX))
	k := keep(t, w, 1)
	if l := k.Waiting(); !slices.Equal(l, []api.Ticket{{Node: 1, Use: 1}}) || k.Rounds() != 0 {
		t.Errorf("Waiting: %v", l)
	}
	if e := k.Round(); e != api.OK || len(k.Waiting()) != 0 || k.Rounds() != 1 {
		t.Errorf("Round: %v, %v", e, k.Waiting())
	}
	if l := w.Held(0); len(l) != 1 || l[0].Ticket != (api.Ticket{Node: 1, Use: 1}) {
		t.Errorf("Held: %v", l)
	}
}

// TestSteps: P29.1, the steps of a round, in order.
func TestSteps(t *testing.T) {
	w := play(t, config(3), acquire(0, 0, api.ModeS), api.Act{Kind: api.ActCrash, Node: 1}, acquire(2, 0, api.ModeX))
	from := w.Len()
	k := keep(t, w, 1)
	if e := k.Round(); e != api.OK {
		t.Fatalf("Round: %v", e)
	}
	got := kinds(w, from)
	want := [][2]int{{6, 0}, {6, 1}, {8, 1}, {6, 2}, {1, 0}, {2, 0}, {2, 1}, {2, 2}, {3, 0}}
	if len(got) < len(want) || !slices.Equal(got[:len(want)], want) || len(w.Way()) != 0 {
		t.Errorf("acts: %v, not %v ..", got, want)
	}
	for i, n := range w.Notes() {
		a := n.Act
		if i >= from && (a.Kind == api.ActStop && a.N != api.MaxStop || a.Kind == api.ActAsk && a.Ask != (api.Ask{Kind: api.AskRelease, Use: 1}) || a.Kind == api.ActDeliver && a.At != 0 || a.Kind > api.ActDeliver && a.Kind != api.ActStop && a.Kind != api.ActRevive) {
			t.Errorf("act %d: %v", i, a)
		}
	}
	for _, x := range got[len(want):] {
		if x[0] != int(api.ActDeliver) {
			t.Errorf("behind the ticks: %v", x)
		}
	}
}

// TestPatience: P29.1, for how many rounds in a row a ticket is held.
func TestPatience(t *testing.T) {
	for _, patience := range []int{1, 2, 5, 64} {
		w := play(t, config(1), acquire(0, 0, api.ModeX))
		k := keep(t, w, patience)
		for n := range patience {
			if len(w.Held(0)) != 1 {
				t.Errorf("patience %d: released behind %d rounds", patience, n)
			}
			k.Round()
		}
		if len(w.Held(0)) != 0 || k.Rounds() != patience {
			t.Errorf("patience %d: held still", patience)
		}
	}
	// Another use of a slot is another ticket: its rounds are its own.
	w := play(t, config(1), acquire(0, 0, api.ModeX))
	k := keep(t, w, 2)
	k.Round()
	w.Do(api.Act{Kind: api.ActAsk, Ask: api.Ask{Kind: api.AskRelease, Use: 1}})
	w.Do(acquire(0, 0, api.ModeX))
	k.Round()
	if len(w.Held(0)) != 1 {
		t.Error("another use is released too early")
	}
	k.Round()
	if len(w.Held(0)) != 0 {
		t.Error("another use is held still")
	}
	// What is held only when another one was given back was not held at the beginning.
	x := play(t, wide(1), acquire(0, 0, api.ModeX), acquire(0, 0, api.ModeX))
	j := keep(t, x, 1)
	j.Round()
	if l := x.Held(0); len(l) != 1 || l[0].Ticket.Slot != 1 {
		t.Errorf("Held: %v", l)
	}
	j.Round()
	if len(x.Held(0)) != 0 {
		t.Error("held still")
	}
}

// TestRun: P29.1, as long as somebody waits; the first round is there.
func TestRun(t *testing.T) {
	k := keep(t, play(t, config(2)), 1)
	for _, c := range [][2]int{{0, 0}, {1, 1}, {9, 1}} {
		if n, e := k.Run(c[0]); n != c[1] || e != api.OK {
			t.Errorf("Run(%d) = %d %v", c[0], n, e)
		}
	}
	if k.Rounds() != 2 {
		t.Errorf("Rounds: %d", k.Rounds())
	}
	for _, n := range []int{-1, math.MinInt} {
		if many, e := k.Run(n); many != 0 || e != api.ErrArg || k.Rounds() != 2 {
			t.Errorf("Run(%d) = %d %v", n, many, e)
		}
	}
	w := play(t, config(3), acquire(0, 0, api.ModeX), acquire(1, 0, api.ModeX), acquire(2, 0, api.ModeX))
	j := keep(t, w, 4)
	if n, e := j.Run(2); n != 2 || e != api.OK || len(j.Waiting()) != 2 {
		t.Errorf("Run(2) = %d %v, %v", n, e, j.Waiting())
	}
	n, e := j.Run(math.MaxInt)
	if e != api.OK || len(j.Waiting()) != 0 || j.Rounds() != 2+n || n > 12 {
		t.Errorf("Run = %d %v, %v", n, e, j.Waiting())
	}
}

// TestNew: P29.1.
func TestNew(t *testing.T) {
	w := play(t, config(2))
	for _, p := range []int{0, -1, 65, math.MaxInt, math.MinInt} {
		if k, e := round.New(w, p); k != nil || e != api.ErrArg {
			t.Errorf("patience %d: %v", p, e)
		}
	}
	for _, x := range []*world.World{nil, {}} {
		if k, e := round.New(x, 0); k != nil || e != api.ErrNil {
			t.Errorf("no world: %v", e)
		}
	}
	for _, k := range []*round.Keeper{nil, {}} {
		n, e := k.Run(-1)
		if n != 0 || e != api.ErrNil || k.Round() != api.ErrNil || k.Waiting() != nil || k.World() != nil || k.Rounds() != 0 {
			t.Errorf("no keeper does something: %v", e)
		}
		for range k.Open() {
			t.Error("no keeper has open tickets")
		}
	}
}

// TestOpen: P29.2, at nodes that are up, by nodes, locks, slots.
func TestOpen(t *testing.T) {
	w := play(t, wide(3), acquire(0, 0, api.ModeX), acquire(0, 0, api.ModeS), acquire(0, 1, api.ModeX), acquire(2, 1, api.ModeX), acquire(1, 1, api.ModeS), acquire(1, 0, api.ModeS), api.Act{Kind: api.ActCrash, Node: 1})
	k := keep(t, w, 1)
	type pair struct {
		t api.Ticket
		s api.State
	}
	want := []pair{{api.Ticket{Use: 1}, api.StateHeld}, {api.Ticket{Slot: 1, Use: 1}, api.StatePending}, {api.Ticket{Lock: 1, Use: 1}, api.StatePending}, {api.Ticket{Node: 2, Lock: 1, Use: 1}, api.StatePending}}
	if l := k.Waiting(); len(l) != 3 || l[0] != want[1].t || l[1] != want[2].t || l[2] != want[3].t {
		t.Errorf("Waiting: %v", l)
	}
	seq := k.Open()
	for range 2 {
		var got []pair
		for t, s := range seq {
			got = append(got, pair{t, s})
		}
		if !slices.Equal(got, want) {
			t.Errorf("Open: %v", got)
		}
	}
	for x := range seq {
		if x != want[0].t {
			t.Errorf("first: %v", x)
		}
		break
	}
}

// drain takes all packets off their way, by delivering or dropping them.
func drain(w *world.World, k api.ActKind) {
	for {
		if _, e := w.Do(api.Act{Kind: k}); e != api.OK {
			return
		}
	}
}

// chain is a world of a tree whose token went from each node to the next one, and got lost on its last way: a status goes far, and nobody answers it.
func chain(t *testing.T) *world.World {
	c := config(64)
	c.Forms[0].Tree = true
	w := play(t, c)
	for n := 1; n < 64; n++ {
		w.Do(acquire(n, 0, api.ModeX))
		drain(w, api.ActDeliver)
		w.Do(api.Act{Kind: api.ActAsk, Node: n - 1, Ask: api.Ask{Kind: api.AskRelease, Use: 1}})
		if n == 63 {
			drain(w, api.ActDrop)
		}
		drain(w, api.ActDeliver)
	}
	if len(w.Has(0)) != 0 || w.Node(62).Locks[0].Last != 64 {
		t.Fatalf("no chain: %v", w.Has(0))
	}
	for n := range 63 {
		w.Do(acquire(n, 0, api.ModeS))
		for range 5 {
			w.Do(api.Act{Kind: api.ActTick, Node: n})
		}
		drain(w, api.ActDrop)
	}
	return w
}

// TestStorm: P29.1, as many packets as may be are delivered, and there are some; another round goes on.
func TestStorm(t *testing.T) {
	w := chain(t)
	k := keep(t, w, 64)
	from := w.Len()
	if e := k.Round(); e != api.ErrStorm || len(w.Way()) == 0 || k.Rounds() != 1 {
		t.Errorf("Round: %v, %d on their way", e, len(w.Way()))
	}
	delivered := 0
	for _, x := range kinds(w, from) {
		if x[0] == int(api.ActDeliver) {
			delivered++
		}
	}
	if delivered != api.MaxStorm {
		t.Errorf("%d were delivered", delivered)
	}
	if n, e := k.Run(1); n != 1 || k.Rounds() != 2 || e == api.OK && len(w.Way()) > 0 {
		t.Errorf("Run: %d %v", n, e)
	}
}

// TestBound: P29.3.
func TestBound(t *testing.T) {
	if n, e := round.Bound(config(2), 1); n != 154 || e != api.OK {
		t.Errorf("Bound: %d %v", n, e)
	}
	c := wide(5)
	if n, e := round.Bound(c, 64); n != 3*(9+12)+2+20+4*(10+2+2)*67 || e != api.OK {
		t.Errorf("Bound: %d %v", n, e)
	}
	for _, p := range []int{0, 65, -1} {
		if n, e := round.Bound(c, p); n != 0 || e != api.ErrArg {
			t.Errorf("patience %d: %d %v", p, n, e)
		}
	}
	if n, e := round.Bound(api.Config{}, 1); n != 0 || e != api.ErrArg {
		t.Errorf("no config: %d %v", n, e)
	}
}

// chance tells an act by chance.
func chance(r *rand.Rand, w *world.World) api.Act {
	n, l, s := r.Intn(w.Config().Shape.Nodes), r.Intn(2), r.Intn(2)
	way := max(len(w.Way()), 1)
	use := int64(1)
	if w.Up(n) {
		use = max(w.Node(n).Locks[l].Slots[s].Use, 1)
	}
	switch k := r.Intn(30); {
	case k < 7:
		return api.Act{Kind: api.ActAsk, Node: n, Ask: api.Ask{Kind: api.AskAcquire, Lock: l, Mode: api.Mode(1 + r.Intn(5)), Prio: r.Intn(4)}}
	case k < 9:
		return api.Act{Kind: api.ActAsk, Node: n, Ask: api.Ask{Kind: api.AskRelease, Lock: l, Slot: s, Use: use}}
	case k < 14:
		return api.Act{Kind: api.ActTick, Node: n}
	case k < 22:
		return api.Act{Kind: api.ActDeliver, At: r.Intn(way)}
	case k < 25:
		return api.Act{Kind: api.ActDrop, At: r.Intn(way)}
	case k < 26:
		return api.Act{Kind: api.ActDouble, At: r.Intn(way)}
	case k < 27:
		return api.Act{Kind: api.ActStop, Node: n, N: r.Intn(30)}
	case k < 28:
		return api.Act{Kind: api.ActCrash, Node: n, Keep: [2]int{r.Intn(50), r.Intn(50)}}
	}
	return api.Act{Kind: api.ActRevive, Node: n}
}

// TestServed: P29.4, whatever happened, who waits is served; eager ones that come behind ask again and again.
func TestServed(t *testing.T) {
	r := rand.New(rand.NewSource(27))
	waited, most := 0, 0
	for life := range 60 {
		c := wide(2 + r.Intn(3))
		w := play(t, c)
		for range 200 {
			w.Do(chance(r, w))
		}
		k := keep(t, w, 1+r.Intn(3))
		bound, _ := round.Bound(c, 3)
		// Tickets of nodes that are down are pending, too: they count from the round in which these come up.
		k.Round()
		open := k.Waiting()
		waited += len(open)
		rounds := 0
		for len(open) > 0 && rounds < bound {
			if life%2 == 0 {
				w.Do(acquire(r.Intn(c.Shape.Nodes), r.Intn(2), api.ModeS))
				w.Do(api.Act{Kind: api.ActAsk, Node: r.Intn(c.Shape.Nodes), Ask: api.Ask{Kind: api.AskAcquire, Lock: r.Intn(2), Mode: api.ModeX, Prio: 3}})
			}
			if e := k.Round(); e != api.OK {
				t.Fatalf("Round: %v", e)
			}
			rounds++
			now := k.Waiting()
			open = slices.DeleteFunc(open, func(x api.Ticket) bool { return !slices.Contains(now, x) })
		}
		most = max(most, rounds)
		if len(open) > 0 {
			t.Fatalf("behind %d rounds these wait: %v", rounds, open)
		}
	}
	if waited < 40 || most < 5 {
		t.Errorf("only %d waited, %d rounds", waited, most)
	}
}

// TestSame: the world that is told is the one that goes on.
func TestSame(t *testing.T) {
	w := play(t, config(2), acquire(1, 0, api.ModeX))
	k := keep(t, w, 1)
	k.Round()
	if !node.Same(k.World().Node(0), w.Node(0)) || w.Node(0).Now != 1 {
		t.Errorf("the world: %v", w.Node(0))
	}
}
