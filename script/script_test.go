package script_test

import (
	"bytes"
	"math"
	"math/rand"
	"slices"
	"testing"

	"castellan/api"
	"castellan/script"
	"castellan/world"
)

// config is one of some nodes.
func config(nodes, locks, slots int) api.Config {
	return api.Config{Shape: api.Shape{Nodes: nodes, Locks: locks, Slots: slots}, Forms: make([]api.Form, locks), Limit: 2, Retry: 2, Far: 6, Suspect: 9, Apart: 3}
}

func ask(n int, a api.Ask) api.Act { return api.Act{Kind: api.ActAsk, Node: n, Ask: a} }

// row is an act of a config of 2 nodes, 2 locks, 2 slots, and its bytes.
type row struct {
	a api.Act
	b string
}

func rows() []row {
	return []row{
		{ask(1, api.Ask{Kind: api.AskAcquire, Mode: api.ModeX, Prio: 2}), "\x00\x01\x00\x00\x04\x02\x00"}, {ask(0, api.Ask{Kind: api.AskAcquire, Lock: 1, Mode: api.ModeIS, Prio: 3, Ticks: 255}), "\x00\x00\x00\x01\x00\x03\xff"}, {ask(0, api.Ask{Kind: api.AskTry, Mode: api.ModeS}), "\x00\x00\x01\x00\x02\x00"},
		{ask(0, api.Ask{Kind: api.AskCancel, Use: 1}), "\x00\x00\x02\x00\x00\x00"}, {ask(0, api.Ask{Kind: api.AskRelease, Slot: 1, Use: 256}), "\x00\x00\x03\x00\x01\xff"}, {ask(1, api.Ask{Kind: api.AskPoll, Use: 2}), "\x00\x01\x04\x00\x00\x01"}, {ask(1, api.Ask{Kind: api.AskRead, Lock: 1, Use: 2}), "\x00\x01\x05\x01\x00\x01"},
		{ask(0, api.Ask{Kind: api.AskChange, Use: 3, By: -2}), "\x00\x00\x06\x00\x00\x02\x7e"}, {ask(0, api.Ask{Kind: api.AskChange, Use: 3, By: -128}), "\x00\x00\x06\x00\x00\x02\x00"}, {ask(0, api.Ask{Kind: api.AskChange, Use: 3, By: -1}), "\x00\x00\x06\x00\x00\x02\x7f"}, {ask(0, api.Ask{Kind: api.AskChange, Use: 3, By: 1}), "\x00\x00\x06\x00\x00\x02\x80"}, {ask(0, api.Ask{Kind: api.AskChange, Use: 3, By: 128}), "\x00\x00\x06\x00\x00\x02\xff"},
		{api.Act{Kind: api.ActTick, Node: 1}, "\x01\x01"}, {api.Act{Kind: api.ActDeliver, At: 255}, "\x02\xff"}, {api.Act{Kind: api.ActDrop}, "\x03\x00"}, {api.Act{Kind: api.ActDouble, At: 7}, "\x04\x07"}, {api.Act{Kind: api.ActStop, Node: 1, N: 200}, "\x05\x01\xc8"}, {api.Act{Kind: api.ActCrash, Node: 1, Keep: [2]int{4, 5}}, "\x06\x01\x04\x05"}, {api.Act{Kind: api.ActRevive}, "\x07\x00"},
	}
}

// TestRaw: P28.1, P28.3, acts' bytes, there and back.
func TestRaw(t *testing.T) {
	c := config(2, 2, 2)
	var all []api.Act
	var want []byte
	for _, r := range rows() {
		if b, e := script.Raw(c, r.a); string(b) != r.b || e != api.OK || script.Check(c, r.a) != api.OK {
			t.Errorf("Raw(%v) = %x %v", r.a, b, e)
		}
		if l := script.Acts(c, []byte(r.b)); len(l) != 1 || l[0] != r.a {
			t.Errorf("Acts(%x) = %v", r.b, l)
		}
		for cut := range r.b {
			if l := script.Acts(c, []byte(r.b[:cut])); len(l) != 0 {
				t.Errorf("Acts(%x) = %v", r.b[:cut], l)
			}
		}
		all, want = append(all, r.a), append(want, r.b...)
	}
	if b, e := script.Raw(c, all...); !bytes.Equal(b, want) || e != api.OK {
		t.Errorf("Raw of all: %x %v", b, e)
	}
	if l := script.Acts(c, want); !slices.Equal(l, all) {
		t.Errorf("Acts of all: %v", l)
	}
	if b, e := script.Raw(c); len(b) != 0 || e != api.OK {
		t.Errorf("Raw of none: %x %v", b, e)
	}
}

// TestNoBytes: P28.1, acts that have none.
func TestNoBytes(t *testing.T) {
	c := config(2, 2, 2)
	l := []api.Act{{}, {Kind: 9}, {Kind: -1}, {Kind: math.MaxInt}, ask(0, api.Ask{}), ask(0, api.Ask{Kind: 8})}
	for _, r := range rows() {
		for _, change := range []func(*api.Act){
			func(a *api.Act) { a.Node = 2 }, func(a *api.Act) { a.Node = -1 }, func(a *api.Act) { a.At = 256 }, func(a *api.Act) { a.At = -1 }, func(a *api.Act) { a.N = 256 }, func(a *api.Act) { a.N = -1 }, func(a *api.Act) { a.Keep[0] = 256 }, func(a *api.Act) { a.Keep[1] = -1 },
			func(a *api.Act) { a.Ask.Lock = 2 }, func(a *api.Act) { a.Ask.Slot = 2 }, func(a *api.Act) { a.Ask.Mode = 6 }, func(a *api.Act) { a.Ask.Prio = 4 }, func(a *api.Act) { a.Ask.Ticks = 256 }, func(a *api.Act) { a.Ask.Use = 257 }, func(a *api.Act) { a.Ask.Use = -1 }, func(a *api.Act) { a.Ask.By = 129 }, func(a *api.Act) { a.Ask.By = -129 },
		} {
			a := r.a
			change(&a)
			l = append(l, a)
		}
		a, b, k, m := r.a, r.a, r.a, r.a
		if a.Kind == api.ActAsk {
			a.At, b.N, k.Keep[1] = 1, 1, 1
			if a.Ask.Kind <= api.AskTry {
				m.Ask.Use = 1
			} else {
				m.Ask.Use = 0
			}
			if a.Ask.Kind == api.AskChange {
				x := r.a
				x.Ask.By = 0
				l = append(l, x)
			}
		} else {
			a.Ask.Kind, b.Ask.Lock, k.Ask.By, m.Ask.Mode = 1, 1, 1, 1
		}
		l = append(l, a, b, k, m)
	}
	for _, a := range l {
		b, e := script.Raw(c, rows()[0].a, a)
		if e != api.ErrAct || b != nil || script.Check(c, a) != api.ErrAct {
			t.Errorf("Raw(%v) = %x %v", a, b, e)
		}
	}
	for _, bad := range []api.Config{{}, {Shape: c.Shape}, config(65, 1, 1)} {
		b, e1 := script.Raw(bad, api.Act{})
		x, e2 := script.Play(bad, 900, 9)
		if e1 != api.ErrArg || e2 != api.ErrArg || script.Check(bad, api.Act{}) != api.ErrArg || b != nil || !script.Same(x, api.Lived{}) || script.Acts(bad, []byte{1, 1}) != nil {
			t.Errorf("no config: %v %v", e1, e2)
		}
		for range script.Each(bad, []byte{1, 1}) {
			t.Error("acts of no config")
		}
	}
}

// TestModulo: P28.1, how bytes that are out of range are read.
func TestModulo(t *testing.T) {
	c := config(3, 2, 3)
	for b, want := range map[string]api.Act{
		"\x09\x05": {Kind: api.ActTick, Node: 2}, "\xff\xff": {Kind: api.ActRevive, Node: 0}, "\x08\x04\x07\x03\x06\x07\xff": ask(1, api.Ask{Kind: api.AskAcquire, Lock: 1, Mode: api.ModeIX, Prio: 3, Ticks: 255}), "\x00\x00\xff\x05\x05\xff": ask(0, api.Ask{Kind: api.AskRelease, Lock: 1, Slot: 2, Use: 256}),
	} {
		if l := script.Acts(c, []byte(b)); len(l) != 1 || l[0] != want {
			t.Errorf("Acts(%x) = %v", b, l)
		}
	}
	two := config(2, 1, 1)
	if l := script.Acts(two, []byte{9, 3, 2}); len(l) != 1 || l[0] != (api.Act{Kind: api.ActTick, Node: 1}) {
		t.Errorf("the example: %v", l)
	}
	if _, e := script.Raw(two, api.Act{Kind: api.ActTick, Node: 2}); e != api.ErrAct {
		t.Errorf("the example: %v", e)
	}
}

// TestEach: P28.1, each with where its bytes begin.
func TestEach(t *testing.T) {
	c := config(2, 2, 2)
	var raw []byte
	var begin []int
	for _, r := range rows() {
		begin = append(begin, len(raw))
		raw = append(raw, r.b...)
	}
	raw = append(raw, 0, 0, 6)
	seq := script.Each(c, raw)
	for range 2 {
		next := 0
		for at, a := range seq {
			if next >= len(begin) || at != begin[next] || a != rows()[next].a {
				t.Errorf("at %d: %v", at, a)
			}
			next++
		}
		if next != len(begin) {
			t.Errorf("%d acts", next)
		}
	}
	for at := range seq {
		if at != 0 {
			t.Errorf("first: %d", at)
		}
		break
	}
}

// TestAnyBytes: P28.3, each act that bytes are has bytes; the same acts end in the same way.
func TestAnyBytes(t *testing.T) {
	r := rand.New(rand.NewSource(26))
	for range 300 {
		c := config(1+r.Intn(5), 1+r.Intn(3), 1+r.Intn(4))
		raw := make([]byte, r.Intn(300))
		r.Read(raw)
		l := script.Acts(c, raw)
		b, e := script.Raw(c, l...)
		if again := script.Acts(c, b); e != api.OK || !slices.Equal(l, again) {
			t.Fatalf("%v: %v, %v", e, l, again)
		}
		x, e := script.Play(c, 3000, 5, l...)
		y, f := script.Play(c, 3000, 5, l...)
		if e != api.OK || f != api.OK || !script.Same(x, y) || x.Notes+x.Refused != len(l) {
			t.Fatalf("Play: %v %v", x, y)
		}
	}
}

// TestPlay: P28.2.
func TestPlay(t *testing.T) {
	c := config(2, 1, 1)
	acts := []api.Act{
		ask(0, api.Ask{Kind: api.AskAcquire, Mode: api.ModeX}), ask(0, api.Ask{Kind: api.AskPoll, Use: 9}), {Kind: api.ActDeliver, At: 3}, {Kind: api.ActTick, Node: 9}, {Kind: api.ActCrash, Node: 1}, ask(1, api.Ask{Kind: api.AskPoll, Use: 1}), ask(0, api.Ask{Kind: api.AskRead, Use: 1}), {Kind: api.ActTick}, {Kind: api.ActTick}, {Kind: api.ActTick},
	}
	x, e := script.Play(c, 3000, 5, acts...)
	want := api.Lived{Notes: 8, Refused: 2, Answered: 2, Held: [][]api.Held{{{Ticket: api.Ticket{Use: 1}, Mode: api.ModeX}}}, Has: [][]int{{0}}, Up: []bool{true, false}}
	if e != api.OK || !script.Same(x, want) {
		t.Errorf("Play: %v %v", x, e)
	}
	w, _ := world.Play(c, 3000, 5, acts...)
	if w.Len() != x.Notes || !slices.Equal(w.Held(0), x.Held[0]) {
		t.Errorf("the world: %d %v", w.Len(), w.Held(0))
	}
	for i, change := range []func(*api.Lived){
		func(x *api.Lived) { x.Notes++ }, func(x *api.Lived) { x.Refused++ }, func(x *api.Lived) { x.Answered++ }, func(x *api.Lived) { x.Held = [][]api.Held{nil} }, func(x *api.Lived) { x.Held = nil }, func(x *api.Lived) { x.Has = [][]int{{1}} }, func(x *api.Lived) { x.Up = []bool{true, true} },
	} {
		y := x
		change(&y)
		if script.Same(x, y) || script.Same(y, x) {
			t.Errorf("%d: another one is the same", i)
		}
	}
	if !script.Same(api.Lived{Held: [][]api.Held{nil}}, api.Lived{Held: [][]api.Held{{}}, Up: []bool{}}) {
		t.Error("nil and empty lists are others")
	}
	if x, e := script.Play(c, 4, 5); e != api.ErrFull || !script.Same(x, api.Lived{}) {
		t.Errorf("no room: %v", e)
	}
	if x, e := script.Play(c, 900, 0); e != api.ErrArg || !script.Same(x, api.Lived{}) {
		t.Errorf("no bound: %v", e)
	}
}
