package world_test

import (
	"bytes"
	"math"
	"math/rand"
	"slices"
	"testing"

	"castellan/api"
	"castellan/mode"
	"castellan/node"
	"castellan/world"
)

// config is one of some nodes, with a lock that broadcasts.
func config(nodes int) api.Config {
	return api.Config{Shape: api.Shape{Nodes: nodes, Locks: 1, Slots: 1}, Forms: []api.Form{{Counter: api.Counter{Value: 5}}}, Limit: 2, Retry: 2, Far: 6, Suspect: 9, Apart: 3}
}

// wide is one of two locks, one of them a tree, and two slots.
func wide(nodes int) api.Config {
	c := config(nodes)
	c.Shape.Locks, c.Shape.Slots = 2, 2
	c.Forms = append(c.Forms, api.Form{Tree: true})
	return c
}

// open tells a new world.
func open(t *testing.T, c api.Config, room, bound int) *world.World {
	t.Helper()
	w, e := world.New(c, room, bound)
	if e != api.OK || w == nil {
		t.Fatalf("New: %v", e)
	}
	return w
}

func ask(n int, a api.Ask) api.Act { return api.Act{Kind: api.ActAsk, Node: n, Ask: a} }

func acquire(n, l int, m api.Mode) api.Act {
	return ask(n, api.Ask{Kind: api.AskAcquire, Lock: l, Mode: m})
}

func tick(n int) api.Act { return api.Act{Kind: api.ActTick, Node: n} }

func deliver(at int) api.Act { return api.Act{Kind: api.ActDeliver, At: at} }

// notes tells a world's notes.
func notes(w *world.World) []api.Note {
	var l []api.Note
	for i, n := range w.Notes() {
		if i != len(l) {
			return nil
		}
		l = append(l, n)
	}
	return l
}

// do does an act, and holds what is told against what is wanted.
func do(t *testing.T, w *world.World, a api.Act, want api.Answer, e api.Errno) {
	t.Helper()
	many := w.Len()
	got, f := w.Do(a)
	if got != want || f != e {
		t.Errorf("%v: %v %v, not %v %v", a, got, f, want, e)
	}
	if kept := w.Len() - many; (kept == 1) != (e == api.OK) {
		t.Errorf("%v: %d notes more", a, kept)
	}
}

// last tells the last note.
func last(w *world.World) api.Note {
	l := notes(w)
	return l[len(l)-1]
}

// TestExample: P27.1, P27.2.
func TestExample(t *testing.T) {
	w := open(t, config(2), 4000, 9)
	do(t, w, acquire(1, 0, api.ModeX), api.Answer{Use: 1, State: api.StatePending}, api.OK)
	if l := w.Way(); len(l) != 1 || l[0].From != 1 || l[0].To != 0 {
		t.Errorf("Way: %v", l)
	}
	do(t, w, deliver(0), api.Answer{}, api.OK)
	if l := w.Way(); len(l) != 2 || l[0].To != 1 {
		t.Errorf("Way: %v", l)
	}
	do(t, w, deliver(0), api.Answer{}, api.OK)
	if l := w.Held(0); !slices.Equal(l, []api.Held{{Ticket: api.Ticket{Node: 1, Use: 1}, Mode: api.ModeX}}) {
		t.Errorf("Held: %v", l)
	}
	if l := w.Has(0); !slices.Equal(l, []int{1}) {
		t.Errorf("Has: %v", l)
	}
	do(t, w, api.Act{Kind: api.ActCrash, Node: 0}, api.Answer{}, api.OK)
	do(t, w, tick(0), api.Answer{}, api.OK)
	if n := last(w); n != (api.Note{Act: tick(0), Errno: api.ErrDown}) {
		t.Errorf("the note: %v", n)
	}
	do(t, w, deliver(9), api.Answer{}, api.ErrRange)
	if w.Len() != 5 || w.Up(0) || !w.Up(1) || !node.Same(w.Node(0), api.Node{}) || w.Node(1).Me != 1 {
		t.Errorf("Len %d", w.Len())
	}
	n := notes(w)[0]
	if n != (api.Note{Act: acquire(1, 0, api.ModeX), Answer: api.Answer{Use: 1, State: api.StatePending}}) {
		t.Errorf("the first note: %v", n)
	}
}

// TestNew: P27.1.
func TestNew(t *testing.T) {
	for i, r := range []struct {
		c           api.Config
		room, bound int
		want        api.Errno
	}{
		{api.Config{}, 900, 1, api.ErrArg}, {config(0), 900, 1, api.ErrArg}, {config(65), 900, 1, api.ErrArg}, {config(math.MinInt), 900, 1, api.ErrArg}, {config(math.MaxInt), 900, 1, api.ErrArg}, {config(2), 0, 1, api.ErrArg}, {config(2), api.MaxRoom + 1, 1, api.ErrArg}, {config(2), 900, 0, api.ErrArg}, {config(2), 900, api.MaxBound + 1, api.ErrArg}, {config(2), 4, 1, api.ErrFull}, {config(64), 5, api.MaxBound, api.OK},
	} {
		w, e := world.New(r.c, r.room, r.bound)
		x, f := world.Play(r.c, r.room, r.bound, tick(0))
		if e != r.want || f != r.want || (w == nil) == (e == api.OK) || (x == nil) == (e == api.OK) {
			t.Errorf("%d: %v %v, not %v", i, e, f, r.want)
		}
	}
	c := config(2)
	w := open(t, c, 900, 1)
	x := w.Config()
	x.Forms[0].Tree = true
	if y := w.Config(); y.Forms[0] != (api.Form{Counter: api.Counter{Value: 5}}) || y.Shape != c.Shape || y.Suspect != 9 {
		t.Errorf("Config: %v", y)
	}
}

// TestRefused: P27.1, acts that are refused, in the order of errors; what an act does not name is not looked at.
func TestRefused(t *testing.T) {
	w := open(t, config(2), 4000, 9)
	bad := api.Ask{Kind: api.AskPoll, Lock: 1, Use: 1}
	for _, a := range []api.Act{
		{}, {Kind: 9}, {Kind: -1}, tick(-1), tick(2), tick(math.MaxInt), ask(2, api.Ask{Kind: api.AskPoll, Use: 1}), ask(0, bad), ask(0, api.Ask{}), {Kind: api.ActStop, Node: 0, N: -1}, {Kind: api.ActStop, Node: 2}, {Kind: api.ActCrash, Keep: [2]int{-1, 0}}, {Kind: api.ActCrash, Keep: [2]int{0, -1}}, {Kind: api.ActCrash, Node: -1}, {Kind: api.ActRevive, Node: 2},
	} {
		do(t, w, a, api.Answer{}, api.ErrArg)
	}
	for _, k := range []api.ActKind{api.ActDeliver, api.ActDrop, api.ActDouble} {
		for _, at := range []int{-1, 0, math.MaxInt, math.MinInt} {
			do(t, w, api.Act{Kind: k, At: at}, api.Answer{}, api.ErrRange)
		}
	}
	do(t, w, api.Act{Kind: api.ActTick, Node: 1, At: -5, N: -5, Ask: bad, Keep: [2]int{-1, -1}}, api.Answer{}, api.OK)
	do(t, w, acquire(1, 0, api.ModeX), api.Answer{Use: 1, State: api.StatePending}, api.OK)
	do(t, w, api.Act{Kind: api.ActDouble, Node: 77, N: -1}, api.Answer{}, api.OK)
	if len(w.Way()) != 2 {
		t.Errorf("doubled: %v", w.Way())
	}
	do(t, w, api.Act{Kind: api.ActDrop, At: 1}, api.Answer{}, api.OK)
	if len(w.Way()) != 1 {
		t.Errorf("dropped: %v", w.Way())
	}
	for len(w.Way()) < api.MaxPackets {
		w.Do(api.Act{Kind: api.ActDouble})
	}
	do(t, w, api.Act{Kind: api.ActDouble}, api.Answer{}, api.ErrCrowd)
	do(t, w, api.Act{Kind: api.ActDouble, At: api.MaxPackets}, api.Answer{}, api.ErrRange)
	// What has no room is lost: of two packets one goes.
	do(t, w, deliver(0), api.Answer{}, api.OK)
	l := w.Way()
	if len(l) != api.MaxPackets || l[len(l)-1].From != 0 || l[len(l)-2].From != 1 {
		t.Errorf("%d packets", len(l))
	}
}

// TestLong: P27.1, as many acts as may be.
func TestLong(t *testing.T) {
	w := open(t, config(1), 4000, 9)
	for range api.MaxNotes {
		w.Do(api.Act{Kind: api.ActStop, N: 1})
	}
	if w.Len() != api.MaxNotes {
		t.Fatalf("Len %d", w.Len())
	}
	do(t, w, tick(0), api.Answer{}, api.ErrLong)
	do(t, w, deliver(0), api.Answer{}, api.ErrRange)
	do(t, w, tick(1), api.Answer{}, api.ErrArg)
}

// TestManagers: P27.1, what managers tell is no refusal.
func TestManagers(t *testing.T) {
	w := open(t, config(2), 60, 4096)
	act := func(a api.Act, want api.Errno) {
		t.Helper()
		do(t, w, a, api.Answer{}, api.OK)
		if n := last(w); n.Errno != want || n.Act != a || n.Answer != (api.Answer{}) {
			t.Errorf("%v: the note %v, not %v", a, n, want)
		}
	}
	act(api.Act{Kind: api.ActRevive, Node: 0}, api.ErrUp)
	act(api.Act{Kind: api.ActStop, Node: 0, N: 0}, api.OK)
	act(tick(0), api.ErrStopped)
	act(tick(0), api.ErrDown)
	act(acquire(0, 0, api.ModeX), api.ErrDown)
	act(api.Act{Kind: api.ActRevive, Node: 0}, api.OK)
	do(t, w, acquire(1, 0, api.ModeX), api.Answer{Use: 1, State: api.StatePending}, api.OK)
	act(api.Act{Kind: api.ActCrash, Node: 0, Keep: [2]int{9, 9}}, api.OK)
	act(deliver(0), api.ErrDown)
	if len(w.Way()) != 0 {
		t.Errorf("a packet for a node that is down is there still: %v", w.Way())
	}
	for range 9 {
		w.Do(tick(1))
	}
	if n := last(w); n.Errno != api.ErrFull {
		t.Errorf("the note: %v", n)
	}
	if !w.Up(1) || w.Up(0) || w.Up(-1) || w.Up(2) {
		t.Error("Up")
	}
	if a, e := w.Do(ask(1, api.Ask{Kind: api.AskCancel, Use: 9})); e != api.OK || a != (api.Answer{}) {
		t.Errorf("without room: %v %v", a, e)
	}
	x := open(t, config(1), 900, 9)
	do(t, x, ask(0, api.Ask{Kind: api.AskPoll, Use: 9}), api.Answer{Errno: api.ErrNone}, api.OK)
	if n := last(x); n.Errno != api.OK || n.Answer.Errno != api.ErrNone {
		t.Errorf("the note: %v", n)
	}
}

// TestTells: P27.2, of a lock that is not there nothing; of nodes that are up.
func TestTells(t *testing.T) {
	w, e := world.Play(wide(3), 4000, 9, tick(9), acquire(0, 0, api.ModeS), acquire(0, 0, api.ModeIS), acquire(1, 1, api.ModeX), acquire(2, 0, api.ModeS), deliver(0), deliver(0), deliver(0), deliver(0))
	if e != api.OK || w.Len() != 8 {
		t.Fatalf("Play: %v, %d", e, w.Len())
	}
	want := []api.Held{{Ticket: api.Ticket{Use: 1}, Mode: api.ModeS}, {Ticket: api.Ticket{Slot: 1, Use: 1}, Mode: api.ModeIS}, {Ticket: api.Ticket{Node: 2, Use: 1}, Mode: api.ModeS}}
	if l := w.Held(0); !slices.Equal(l, want) {
		t.Errorf("Held(0): %v", l)
	}
	if l := w.Held(1); !slices.Equal(l, []api.Held{{Ticket: api.Ticket{Node: 1, Lock: 1, Use: 1}, Mode: api.ModeX}}) {
		t.Errorf("Held(1): %v", l)
	}
	for _, l := range []int{-1, 2, math.MaxInt} {
		if len(w.Held(l))+len(w.Has(l)) != 0 {
			t.Errorf("lock %d is there", l)
		}
	}
	w.Do(api.Act{Kind: api.ActCrash, Node: 0})
	if l := w.Held(0); !slices.Equal(l, want[2:]) || len(w.Has(0)) != 0 || !slices.Equal(w.Has(1), []int{1}) {
		t.Errorf("one is down: %v %v", l, w.Has(0))
	}
	n := w.Node(1)
	n.Locks[1].Token.Over[0] = 99
	if w.Node(1).Locks[1].Token.Over[0] == 99 || !node.Same(w.Node(3), api.Node{}) || !node.Same(w.Node(-1), api.Node{}) {
		t.Error("Node")
	}
	for _, p := range w.Way() {
		clear(p.Bytes)
	}
	for _, p := range w.Way() {
		if !slices.ContainsFunc(p.Bytes, func(b byte) bool { return b != 0 }) {
			t.Error("Way shares memory")
		}
	}
	w.Do(tick(1))
	seq := w.Notes()
	many := 0
	for range seq {
		many++
	}
	if many != 10 {
		t.Errorf("%d notes", many)
	}
	for i := range seq {
		if i != 0 {
			t.Errorf("first: %d", i)
		}
		break
	}
}

// TestNil: of no world, and of one that no call made.
func TestNil(t *testing.T) {
	for _, w := range []*world.World{nil, {}} {
		if a, e := w.Do(api.Act{}); a != (api.Answer{}) || e != api.ErrNil {
			t.Errorf("Do: %v", e)
		}
		if w.Held(0) != nil || w.Has(0) != nil || w.Up(0) || !node.Same(w.Node(0), api.Node{}) || w.Way() != nil || w.Len() != 0 || len(notes(w)) != 0 || w.Config().Forms != nil {
			t.Error("no world tells something")
		}
	}
}

// chance tells an act by chance, one that may be more often than not.
func chance(r *rand.Rand, w *world.World) api.Act {
	n := r.Intn(w.Config().Shape.Nodes)
	way := max(len(w.Way()), 1)
	l, s := r.Intn(2), r.Intn(2)
	use := int64(1)
	if w.Up(n) {
		use = max(w.Node(n).Locks[l].Slots[s].Use, 1)
	}
	switch k := r.Intn(40); {
	case k < 5:
		return ask(n, api.Ask{Kind: api.AskAcquire, Lock: l, Mode: api.Mode(1 + r.Intn(5)), Prio: r.Intn(4), Ticks: int64(r.Intn(2) * 30)})
	case k < 7:
		return ask(n, api.Ask{Kind: []api.AskKind{api.AskRelease, api.AskRelease, api.AskCancel}[r.Intn(3)], Lock: l, Slot: s, Use: use})
	case k < 8:
		return ask(n, api.Ask{Kind: api.AskChange, Lock: l, Slot: s, Use: use, By: int64(1 + r.Intn(3))})
	case k < 9:
		return ask(n, api.Ask{Kind: api.AskTry, Lock: l, Mode: api.Mode(1 + r.Intn(5))})
	case k < 20:
		return tick(n)
	case k < 33:
		return deliver(r.Intn(way))
	case k < 34:
		return api.Act{Kind: api.ActDrop, At: r.Intn(way)}
	case k < 35:
		return api.Act{Kind: api.ActDouble, At: r.Intn(way)}
	case k < 36:
		return api.Act{Kind: api.ActStop, Node: n, N: r.Intn(30)}
	case k < 37:
		return api.Act{Kind: api.ActCrash, Node: n, Keep: [2]int{r.Intn(50), r.Intn(50)}}
	}
	return api.Act{Kind: api.ActRevive, Node: n}
}

// TestLife: P27.3, whatever happens; the same acts lead to the same.
func TestLife(t *testing.T) {
	r := rand.New(rand.NewSource(25))
	held := 0
	for range 12 {
		c := wide(2 + r.Intn(3))
		bound := 1 + r.Intn(20)
		w := open(t, c, 6000, bound)
		var acts []api.Act
		for range 700 {
			a := chance(r, w)
			acts = append(acts, a)
			w.Do(a)
			for l := range 2 {
				var modes []api.Mode
				for _, h := range w.Held(l) {
					modes = append(modes, h.Mode)
				}
				held += len(modes)
				if ok, _ := mode.Together(modes...); !ok || len(w.Has(l)) > 1 {
					t.Fatalf("lock %d: %v, %v", l, w.Held(l), w.Has(l))
				}
			}
		}
		x, _ := world.Play(c, 6000, bound, acts...)
		same := slices.Equal(notes(w), notes(x)) && slices.EqualFunc(w.Way(), x.Way(), func(a, b api.Packet) bool { return a.From == b.From && a.To == b.To && bytes.Equal(a.Bytes, b.Bytes) })
		for n := range c.Shape.Nodes {
			same = same && w.Up(n) == x.Up(n) && node.Same(w.Node(n), x.Node(n))
		}
		if !same {
			t.Fatal("the same acts lead to another world")
		}
	}
	if held < 1000 {
		t.Errorf("only %d were held", held)
	}
}
