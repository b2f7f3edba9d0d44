package audit_test

import (
	"math"
	"math/rand"
	"slices"
	"testing"

	"castellan/api"
	"castellan/audit"
	"castellan/world"
)

// config is one of some nodes; the second lock is a tree.
func config(nodes, locks int) api.Config {
	c := api.Config{Shape: api.Shape{Nodes: nodes, Locks: locks, Slots: 1}, Limit: 2, Retry: 2, Far: 6, Suspect: 9, Apart: 3}
	for l := range locks {
		c.Forms = append(c.Forms, api.Form{Tree: l == 1, Counter: api.Counter{Value: 5}})
	}
	return c
}

// play is the world behind some acts.
func play(t *testing.T, c api.Config, l ...api.Act) *world.World {
	t.Helper()
	w, e := world.Play(c, 100000, 20, l...)
	if e != api.OK {
		t.Fatalf("Play: %v", e)
	}
	return w
}

func ask(n int, a api.Ask) api.Act { return api.Act{Kind: api.ActAsk, Node: n, Ask: a} }

func acquire(n, l int, m api.Mode) api.Act {
	return ask(n, api.Ask{Kind: api.AskAcquire, Lock: l, Mode: m})
}

func change(n, l int, use, by int64) api.Act {
	return ask(n, api.Ask{Kind: api.AskChange, Lock: l, Use: use, By: by})
}

// ledger holds the possible values of a lock against what is wanted.
func ledger(t *testing.T, w *world.World, lock int, want ...int64) {
	t.Helper()
	if l, e := audit.Ledger(w, lock); !slices.Equal(l, want) || e != api.OK {
		t.Errorf("Ledger(%d) = %v %v, not %v", lock, l, e, want)
	}
}

// TestExample: P30.1 to P30.3.
func TestExample(t *testing.T) {
	w := play(t, config(1, 1))
	ledger(t, w, 0, 5)
	for _, a := range []api.Act{acquire(0, 0, api.ModeX), change(0, 0, 1, 3), change(0, 0, 1, -2)} {
		w.Do(a)
	}
	ledger(t, w, 0, 6)
	if l, e := audit.Told(w); !slices.Equal(l, []api.Ticket{{Use: 1}}) || e != api.OK {
		t.Errorf("Told: %v %v", l, e)
	}
	if c, ok := audit.Counter(w, 0); c != (api.Counter{Value: 6, Version: 2}) || !ok {
		t.Errorf("Counter: %v %v", c, ok)
	}
	if e := audit.Sound(w); e != api.OK {
		t.Errorf("Sound: %v", e)
	}
	w.Do(api.Act{Kind: api.ActStop, N: 0})
	w.Do(change(0, 0, 1, 4))
	ledger(t, w, 0, 6, 10)
	if l, e := audit.Ledger(w, 1); l != nil || e != api.ErrRange {
		t.Errorf("Ledger(1): %v %v", l, e)
	}
	if _, ok := audit.Counter(w, 0); ok {
		t.Error("the counter of a node that is down")
	}
}

// TestLedger: P30.2, unsure changes, where they may be; answered ones.
func TestLedger(t *testing.T) {
	w := play(t, config(1, 2), acquire(0, 0, api.ModeX), acquire(0, 1, api.ModeX))
	// What was stopped between its record and that lasting may be there, or not.
	for i, r := range []struct {
		by, done int64
		want     []int64
	}{{4, 0, []int64{5, 9}}, {-6, 0, []int64{3, 5, 9}}, {4, 1, []int64{3, 5, 7, 9, 13}}, {-4, 1, []int64{1, 3, 5, 7, 9, 13}}} {
		w.Do(api.Act{Kind: api.ActStop, N: int(r.done)})
		w.Do(change(0, 0, 1, r.by))
		ledger(t, w, 0, r.want...)
		if w.Up(0) {
			t.Fatalf("%d: it is up", i)
		}
		// Keeping what is loose lets the record last.
		w.Do(api.Act{Kind: api.ActCrash, Keep: [2]int{int(r.done) * 99, int(r.done) * 99}})
		w.Do(api.Act{Kind: api.ActRevive})
		if e := audit.Sound(w); e != api.OK {
			t.Errorf("%d: Sound %v", i, e)
		}
	}
	if c, ok := audit.Counter(w, 0); !ok || c.Value != 5 {
		t.Errorf("Counter: %v %v", c, ok)
	}
	ledger(t, w, 1, 5)
	for _, a := range []api.Act{change(0, 0, 1, -9), change(0, 0, 7, 1), ask(0, api.Ask{Kind: api.AskRead, Use: 1})} {
		w.Do(a) // refused in the answer: nothing is unsure
	}
	ledger(t, w, 0, 1, 3, 5, 7, 9, 13)
	w.Do(change(0, 0, 1, 1))
	ledger(t, w, 0, 6)
	w.Do(change(0, 1, 1, -5))
	ledger(t, w, 1, 0)
	for _, lock := range []int{-1, 2, math.MaxInt} {
		if l, e := audit.Ledger(w, lock); l != nil || e != api.ErrRange {
			t.Errorf("Ledger(%d): %v", lock, e)
		}
		if c, ok := audit.Counter(w, lock); ok || c != (api.Counter{}) {
			t.Errorf("Counter(%d): %v", lock, c)
		}
	}
	w.Do(api.Act{Kind: api.ActCrash})
	was, _ := audit.Ledger(w, 0)
	w.Do(change(0, 0, 1, 1)) // it is down: nothing was done
	ledger(t, w, 0, was...)
}

// TestMany: P30.1, P30.2, too many possible values; they are no flaw.
func TestMany(t *testing.T) {
	w := play(t, config(1, 2))
	w.Do(acquire(0, 0, api.ModeX))
	for i := range 13 {
		w.Do(api.Act{Kind: api.ActStop, N: 0})
		w.Do(change(0, 0, 1, 1<<i))
		w.Do(api.Act{Kind: api.ActRevive})
		l, e := audit.Ledger(w, 0)
		if i < 12 && (e != api.OK || len(l) != 2<<i) || i == 12 && (e != api.ErrLong || l != nil) {
			t.Fatalf("%d: %d values, %v", i, len(l), e)
		}
	}
	if e := audit.Sound(w); e != api.OK {
		t.Errorf("Sound: %v", e)
	}
	for _, f := range audit.Flaws(w) {
		t.Errorf("a flaw: %v", f)
	}
	ledger(t, w, 1, 5)
}

// TestTold: P30.2, in the order of notes; of what is answered without an error.
func TestTold(t *testing.T) {
	w := play(t, config(2, 2), acquire(1, 0, api.ModeX), acquire(0, 0, api.ModeX), acquire(0, 0, api.ModeX), ask(1, api.Ask{Kind: api.AskTry, Lock: 1, Mode: api.ModeS}), ask(1, api.Ask{Kind: api.AskTry, Lock: 1, Mode: api.ModeX}),
		ask(0, api.Ask{Kind: api.AskRelease, Use: 1}), acquire(0, 0, api.ModeS), ask(0, api.Ask{Kind: api.AskPoll, Use: 2}), api.Act{Kind: api.ActCrash, Node: 1}, acquire(1, 1, api.ModeS), ask(0, api.Ask{Kind: api.AskTry, Lock: 1, Mode: api.ModeS}))
	want := []api.Ticket{{Node: 1, Use: 1}, {Use: 1}, {Node: 1, Lock: 1, Use: 1}, {Use: 2}}
	if l, e := audit.Told(w); !slices.Equal(l, want) || e != api.OK {
		t.Errorf("Told: %v %v", l, e)
	}
}

// TestEpoch: P30.3, the latest that a node that is up promised.
func TestEpoch(t *testing.T) {
	w := play(t, config(2, 1), acquire(1, 0, api.ModeX), api.Act{Kind: api.ActDrop})
	if e := audit.Epoch(w); e != (api.Epoch{}) {
		t.Errorf("Epoch: %v", e)
	}
	for range 12 {
		w.Do(api.Act{Kind: api.ActTick, Node: 1})
		for len(w.Way()) > 0 {
			w.Do(api.Act{Kind: api.ActDrop})
		}
	}
	if e := audit.Epoch(w); e != (api.Epoch{Count: 1, Node: 1}) {
		t.Errorf("Epoch: %v", e)
	}
	w.Do(api.Act{Kind: api.ActCrash, Node: 1})
	if e := audit.Epoch(w); e != (api.Epoch{}) {
		t.Errorf("one is down: %v", e)
	}
	if c, ok := audit.Counter(w, 0); !ok || c.Value != 5 {
		t.Errorf("Counter: %v %v", c, ok)
	}
	w.Do(api.Act{Kind: api.ActCrash, Node: 0})
	if _, ok := audit.Counter(w, 0); ok || audit.Epoch(w) != (api.Epoch{}) {
		t.Error("all are down")
	}
}

// TestNil: of no world, and of one that no call made.
func TestNil(t *testing.T) {
	for _, w := range []*world.World{nil, {}} {
		l, e1 := audit.Ledger(w, 9)
		x, e2 := audit.Told(w)
		c, ok := audit.Counter(w, 0)
		if e1 != api.ErrNil || e2 != api.ErrNil || audit.Sound(w) != api.ErrNil || l != nil || x != nil || ok || c != (api.Counter{}) || audit.Epoch(w) != (api.Epoch{}) {
			t.Errorf("no world: %v %v", e1, e2)
		}
		for range audit.Flaws(w) {
			t.Error("no world has flaws")
		}
	}
}

// chance tells an act by chance.
func chance(r *rand.Rand, w *world.World) api.Act {
	n, l := r.Intn(w.Config().Shape.Nodes), r.Intn(2)
	way := max(len(w.Way()), 1)
	use := int64(1)
	if w.Up(n) {
		use = max(w.Node(n).Locks[l].Slots[0].Use, 1)
	}
	switch k := r.Intn(40); {
	case k < 6:
		return ask(n, api.Ask{Kind: api.AskAcquire, Lock: l, Mode: []api.Mode{api.ModeX, api.ModeX, api.Mode(1 + r.Intn(5))}[r.Intn(3)], Prio: r.Intn(4)})
	case k < 8:
		return ask(n, api.Ask{Kind: api.AskRelease, Lock: l, Use: use})
	case k < 15:
		return change(n, l, use, int64(r.Intn(9)-4)|1)
	case k < 21:
		return api.Act{Kind: api.ActTick, Node: n}
	case k < 33:
		return api.Act{Kind: api.ActDeliver, At: r.Intn(way)}
	case k < 34:
		return api.Act{Kind: api.ActDrop, At: r.Intn(way)}
	case k < 35:
		return api.Act{Kind: api.ActDouble, At: r.Intn(way)}
	case k < 36:
		return api.Act{Kind: api.ActStop, Node: n, N: r.Intn(40)}
	case k < 37:
		return api.Act{Kind: api.ActCrash, Node: n, Keep: [2]int{r.Intn(50), r.Intn(50)}}
	}
	return api.Act{Kind: api.ActRevive, Node: n}
}

// TestSound: P30.4, whatever happens to a world; its answered changes are one history.
func TestSound(t *testing.T) {
	r := rand.New(rand.NewSource(28))
	changes, unsure, told := 0, 0, 0
	for range 20 {
		w := play(t, config(2+r.Intn(3), 2))
		for range 900 {
			w.Do(chance(r, w))
			if e := audit.Sound(w); e != api.OK {
				t.Fatalf("Sound: %v", e)
			}
		}
		for _, n := range w.Notes() {
			if n.Act.Kind == api.ActAsk && n.Act.Ask.Kind == api.AskChange && n.Answer.State == api.StateHeld {
				changes++
			} else if n.Act.Kind == api.ActAsk && n.Act.Ask.Kind == api.AskChange && n.Errno == api.ErrStopped {
				unsure++
			}
		}
		for l := range 2 {
			values, e := audit.Ledger(w, l)
			if c, ok := audit.Counter(w, l); e == api.OK && ok && !slices.Contains(values, c.Value) || !slices.IsSorted(values) || len(values) > 0 && values[0] < 0 {
				t.Fatalf("%v: %d is none of %v", e, c.Value, values)
			}
		}
		l, e := audit.Told(w)
		if e != api.OK {
			t.Fatalf("Told: %v", e)
		}
		told += len(l)
	}
	if changes < 100 || unsure < 10 || told < 100 {
		t.Errorf("only %d changes, %d unsure, %d told", changes, unsure, told)
	}
}
