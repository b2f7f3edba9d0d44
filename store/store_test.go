package store_test

import (
	"math/rand"
	"testing"

	"castellan/api"
	"castellan/disk"
	"castellan/image"
	"castellan/keep"
	"castellan/node"
	"castellan/seal"
	"castellan/store"
)

// config is one of some nodes.
func config(nodes int) api.Config {
	return api.Config{Shape: api.Shape{Nodes: nodes, Locks: 1, Slots: 1}, Forms: []api.Form{{Counter: api.Counter{Value: 5}}}, Limit: 2, Retry: 2, Far: 6, Suspect: 9, Apart: 3}
}

// room tells a new disk.
func room(t *testing.T, n int) *disk.Disk {
	t.Helper()
	d, e := disk.New(n)
	if e != api.OK {
		t.Fatal(e)
	}
	return d
}

// over tells a disk's store.
func over(t *testing.T, c api.Config, me int, d *disk.Disk) *store.Store {
	t.Helper()
	s, out, e := store.Open(c, me, d, false)
	if e != api.OK || s == nil || len(out) != 0 {
		t.Fatalf("Open: %v", e)
	}
	return s
}

var tick = api.Event{Kind: api.EventTick}

func acquire(m api.Mode) api.Event {
	return api.Event{Kind: api.EventAsk, Ask: api.Ask{Kind: api.AskAcquire, Mode: m}}
}

var read = api.Event{Kind: api.EventAsk, Ask: api.Ask{Kind: api.AskRead, Use: 1}}

// recorded tells the kinds of what is.
func recorded(s *store.Store) []api.EventKind {
	var l []api.EventKind
	for i, x := range s.Events() {
		if i != len(l) {
			return nil
		}
		l = append(l, x.Kind)
	}
	return l
}

// keptIn tells the snapshot on a disk.
func keptIn(t *testing.T, d *disk.Disk) []byte {
	t.Helper()
	k, e := keep.Open(d)
	if e != api.OK {
		t.Fatal(e)
	}
	return k.Snapshot()
}

// TestExample: P25.1, P25.2.
func TestExample(t *testing.T) {
	c, d := config(1), room(t, 2000)
	s := over(t, c, 0, d)
	fresh, _ := node.New(c, 0)
	if !node.Same(s.Node(), fresh) || s.Len() != 0 || s.Size() != 5 || s.Disk() != d {
		t.Errorf("a new store: %v, %d, %d", s.Node(), s.Len(), s.Size())
	}
	if a, out, e := s.Do(acquire(api.ModeX)); a != (api.Answer{Use: 1, State: api.StateHeld}) || len(out) != 0 || e != api.OK || s.Len() != 1 || s.Size() != 5+11 {
		t.Errorf("Do: %v %v %v; %d, %d", a, out, e, s.Len(), s.Size())
	}
	d.Crash([2]int{})
	s = over(t, c, 0, d)
	if a, _, e := s.Do(read); a.Value != 5 || a.State != api.StateHeld || e != api.OK {
		t.Errorf("behind a crash: %v %v", a, e)
	}
	if l := recorded(s); len(l) != 2 || l[0] != api.EventAsk {
		t.Errorf("Events: %v", l)
	}
	was := s.Node()
	if e := s.LayBy(); e != api.OK || s.Len() != 0 || !node.Same(s.Node(), was) {
		t.Errorf("LayBy: %v, %d", e, s.Len())
	}
	b, _ := image.Bytes(c, was)
	if f, _ := seal.Seal(b); s.Size() != len(f) || string(keptIn(t, d)) != string(b) {
		t.Errorf("Size: %d, of a frame of %d", s.Size(), len(f))
	}
	if again := over(t, c, 0, d); !node.Same(again.Node(), was) || again.Len() != 0 {
		t.Errorf("opened again: %v", again.Node())
	}
	if s, out, e := store.Open(c, 1, d, false); s != nil || out != nil || e != api.ErrArg {
		t.Errorf("of number 1: %v", e)
	}
}

// TestOpenWrong: P25.1, the errors in their order.
func TestOpenWrong(t *testing.T) {
	c := config(2)
	for _, d := range []*disk.Disk{nil, {}} {
		if s, _, e := store.Open(api.Config{}, 9, d, true); s != nil || e != api.ErrNil {
			t.Errorf("no disk: %v", e)
		}
	}
	for _, me := range []int{-1, 2} {
		if s, _, e := store.Open(c, me, room(t, 1), true); s != nil || e != api.ErrArg {
			t.Errorf("number %d: %v", me, e)
		}
	}
	if s, _, e := store.Open(api.Config{}, 0, room(t, 1), false); s != nil || e != api.ErrArg {
		t.Errorf("no config: %v", e)
	}
	if s, _, e := store.Open(c, 0, room(t, 4), false); s != nil || e != api.ErrFull {
		t.Errorf("no room: %v", e)
	}
	if s, _, e := store.Open(c, 0, room(t, 5), true); s != nil || e != api.ErrFull {
		t.Errorf("no room for a restart: %v", e)
	}
	over(t, c, 0, room(t, 5))
	d := room(t, 900)
	d.Stop(0)
	if s, _, e := store.Open(c, 0, d, false); s != nil || e != api.ErrStopped {
		t.Errorf("stopped: %v", e)
	}
	d.Stop(3)
	if s, _, e := store.Open(c, 0, d, true); s != nil || e != api.ErrStopped {
		t.Errorf("stopped at the restart: %v", e)
	}
	for i, lay := range []func(k *keep.Keep){
		func(k *keep.Keep) { k.Log([]byte{9}) }, func(k *keep.Keep) { k.Log([]byte{2}); k.Log(nil); k.Log([]byte{2}) }, func(k *keep.Keep) { k.Log([]byte{2, 0}) }, func(k *keep.Keep) { k.Compact([]byte{1}) },
		func(k *keep.Keep) { n, _ := node.New(c, 1); b, _ := image.Bytes(c, n); k.Compact(b) }, func(k *keep.Keep) { n, _ := node.New(c, 0); b, _ := image.Bytes(c, n); k.Compact(append(b, 0)) }, func(k *keep.Keep) { k.Log([]byte("\x03\x00\x00")) },
	} {
		d := room(t, 900)
		k, _ := keep.Open(d)
		lay(k)
		if s, _, e := store.Open(c, 0, d, true); s != nil || e != api.ErrStore {
			t.Errorf("%d: what is none: %v", i, e)
		}
	}
	d = room(t, 900)
	k, _ := keep.Open(d)
	n, _ := node.New(c, 1)
	b, _ := image.Bytes(c, n)
	k.Compact(b)
	if s := over(t, c, 1, d); !node.Same(s.Node(), n) {
		t.Errorf("of number 1: %v", s.Node())
	}
}

// TestRestart: P25.1, it is recorded, and its link restarts.
func TestRestart(t *testing.T) {
	c, d := config(2), room(t, 900)
	s := over(t, c, 1, d)
	if _, out, e := s.Do(acquire(api.ModeX)); len(out) != 1 || e != api.OK {
		t.Errorf("Do: %v %v", out, e)
	}
	again, out, e := store.Open(c, 1, d, true)
	if e != api.OK || len(out) != 0 || again.Len() != 2 || again.Node().Link.Inc != 2 {
		t.Errorf("restart: %v %v", out, e)
	}
	want, _, _, _ := node.Step(c, s.Node(), api.Event{Kind: api.EventRestart})
	if !node.Same(again.Node(), want) {
		t.Errorf("restart: %v", again.Node())
	}
}

// TestDoWrong: P25.1, beside an error the node is as it was.
func TestDoWrong(t *testing.T) {
	c, d := config(2), room(t, 40)
	s := over(t, c, 0, d)
	s.Do(tick)
	was := s.Node()
	long := api.Event{Kind: api.EventHear, From: 1, Bytes: make([]byte, api.MaxFrame)}
	check := func(what string, e, want api.Errno, a api.Answer, out []api.Packet) {
		t.Helper()
		if e != want || a != (api.Answer{}) || out != nil || !node.Same(s.Node(), was) || s.Len() != 1 {
			t.Errorf("%s: %v, not %v", what, e, want)
		}
	}
	for _, x := range []api.Event{{}, {Kind: 9}, {Kind: api.EventHear, From: 0, Bytes: long.Bytes}, acquire(0)} {
		a, out, e := s.Do(x)
		check("an event that may not be", e, api.ErrArg, a, out)
	}
	a, out, e := s.Do(long)
	check("a long one", e, api.ErrLong, a, out)
	a, out, e = s.Do(api.Event{Kind: api.EventHear, From: 1, Bytes: make([]byte, 40)})
	check("no room", e, api.ErrFull, a, out)
	check("LayBy without room", s.LayBy(), api.ErrFull, api.Answer{}, nil)
	d.Stop(1)
	a, out, e = s.Do(tick)
	check("stopped", e, api.ErrStopped, a, out)
	d.Stop(99)
	a, out, e = s.Do(tick)
	check("broken", e, api.ErrStopped, a, out)
	check("broken", s.LayBy(), api.ErrStopped, api.Answer{}, nil)
	a, out, e = s.Do(long)
	check("broken, ErrLong first", e, api.ErrLong, a, out)
	a, out, e = s.Do(api.Event{})
	check("broken, ErrArg first", e, api.ErrArg, a, out)
}

// TestNil: of no store, and of one that no call made.
func TestNil(t *testing.T) {
	for _, s := range []*store.Store{nil, {}} {
		a, out, e := s.Do(api.Event{})
		if e != api.ErrNil || a != (api.Answer{}) || out != nil || s.LayBy() != api.ErrNil || s.Len() != 0 || s.Size() != 0 || s.Disk() != nil || !node.Same(s.Node(), api.Node{}) {
			t.Errorf("no store does something: %v", e)
		}
		for range s.Events() {
			t.Error("no store has events")
		}
	}
}

// TestApart: the node that is told is new memory; events are left at any time, and gone over again.
func TestApart(t *testing.T) {
	c := config(1)
	s := over(t, c, 0, room(t, 900))
	n := s.Node()
	n.Locks[0].Known[0].Over, n.Link.Out[0], n.Locks[0].Token.Over[0] = 77, 77, 77
	if a, _, e := s.Do(acquire(api.ModeX)); e != api.OK || a.State != api.StateHeld {
		t.Errorf("Do: %v %v", a, e)
	}
	seq := s.Events()
	for range 2 {
		many := 0
		for range seq {
			many++
		}
		if many != 1 {
			t.Errorf("%d events", many)
		}
	}
	for i := range s.Events() {
		if i != 0 {
			t.Errorf("first: %d", i)
		}
		break
	}
}

// event is one by chance.
func event(r *rand.Rand, s *store.Store) api.Event {
	use := max(s.Node().Locks[0].Slots[0].Use, 1)
	switch r.Intn(6) {
	case 0:
		return acquire(api.Mode(1 + r.Intn(5)))
	case 1:
		return api.Event{Kind: api.EventAsk, Ask: api.Ask{Kind: api.AskRelease, Use: use}}
	case 2:
		return api.Event{Kind: api.EventAsk, Ask: api.Ask{Kind: api.AskChange, Use: use, By: int64(1 + r.Intn(4))}}
	case 3:
		return api.Event{Kind: api.EventHear, From: 1, Bytes: []byte("noise")}
	}
	return tick
}

// TestLife: P25.3, whatever stops and crashes come between.
func TestLife(t *testing.T) {
	r := rand.New(rand.NewSource(23))
	c := config(2)
	for range 150 {
		d := room(t, 3000)
		was := over(t, c, 0, d).Node()
		doing := was
		for range 6 {
			d.Crash([2]int{r.Intn(60), r.Intn(60)})
			d.Stop(r.Intn(40))
			s, _, e := store.Open(c, 0, d, false)
			if e == api.ErrStopped {
				continue
			}
			if e != api.OK || !node.Same(s.Node(), was) && !node.Same(s.Node(), doing) {
				t.Fatalf("%v: %v, neither %v nor %v", e, s.Node(), was, doing)
			}
			was = s.Node()
			doing = was
			for range 12 {
				x := event(r, s)
				if r.Intn(5) == 0 && s.LayBy() == api.ErrStopped {
					break
				}
				next, a, _, _ := node.Step(c, was, x)
				got, _, e := s.Do(x)
				if e == api.ErrStopped {
					doing = next
					break
				}
				if e != api.OK || got != a || !node.Same(s.Node(), next) {
					t.Fatalf("Do(%v): %v %v", x, got, e)
				}
				was, doing = next, next
			}
		}
	}
}
