package image_test

import (
	"bytes"
	"math"
	"math/rand"
	"slices"
	"testing"

	"castellan/api"
	"castellan/image"
	"castellan/node"
	"castellan/octet"
	"castellan/seal"
)

// config is one of some nodes.
func config(nodes int) api.Config {
	return api.Config{Shape: api.Shape{Nodes: nodes, Locks: 1, Slots: 1}, Forms: []api.Form{{Counter: api.Counter{Value: 5}}}, Limit: 2, Retry: 2, Far: 6, Suspect: 9, Apart: 3}
}

// open tells a new node.
func open(t *testing.T, c api.Config, me int) api.Node {
	t.Helper()
	n, e := node.New(c, me)
	if e != api.OK {
		t.Fatalf("New(%d): %v", me, e)
	}
	return n
}

// step lets events happen.
func step(t *testing.T, c api.Config, n api.Node, l ...api.Event) api.Node {
	t.Helper()
	for _, x := range l {
		after, _, _, e := node.Step(c, n, x)
		if e != api.OK {
			t.Fatalf("%v: %v", x, e)
		}
		n = after
	}
	return n
}

var tick = api.Event{Kind: api.EventTick}

func acquire(m api.Mode) api.Event {
	return api.Event{Kind: api.EventAsk, Ask: api.Ask{Kind: api.AskAcquire, Mode: m}}
}

// ticks is so many ticks.
func ticks(many int) []api.Event {
	l := make([]api.Event, many)
	for i := range l {
		l[i] = tick
	}
	return l
}

// inner tells a node's bytes.
func inner(t *testing.T, c api.Config, n api.Node) []byte {
	t.Helper()
	b, e := image.Bytes(c, n)
	x, many, f := seal.Open(b)
	if e != api.OK || f != api.OK || many != len(b) {
		t.Fatalf("Bytes: %v %v", e, f)
	}
	return x
}

// sealed is the frame of bytes.
func sealed(b []byte) []byte {
	f, _ := seal.Seal(b)
	return f
}

// TestNodeBytes: P24.1, number by number.
func TestNodeBytes(t *testing.T) {
	c := config(1)
	n := open(t, c, 0)
	lock := []byte{0, 1, 1, 1, 0, 0, 0, 10, 0, 0, 0, 1, 0, 0, 0, 0, 0, 0, 0, 0, 0, 0, 0, 0, 1, 0, 0}
	want := append([]byte{0, 0, 0, 1, 0, 0, 0, 0, 0, 0, 0}, lock...)
	if got := inner(t, c, n); !bytes.Equal(got, want) {
		t.Errorf("a new node: %v, not %v", got, want)
	}
	c = config(2)
	n = step(t, c, open(t, c, 1), append([]api.Event{acquire(api.ModeX)}, ticks(12)...)...)
	if !n.Votes {
		t.Fatal("it doesn't vote")
	}
	head := []byte{1, 12, 12, 1, byte(n.Link.Out[0]), 0, 0, 0, 0, 0, 1, 1, 1, 1, 0, 1, 0, 0}
	lock = []byte{0, 0, 0, 0, 1, 0, 0, 0, 0, 0, 1, 5, 0, 1, 1, 5, 0, 0, 0, 0, 0, byte(2 * n.Locks[0].Tries[0].Sent), 0, 0}
	if got := inner(t, c, n); !bytes.Equal(got, append(head, lock...)) {
		t.Errorf("one that votes: %v, not %v", got, append(head, lock...))
	}
}

// nodes are some that were through something.
func nodes(t *testing.T, c api.Config) []api.Node {
	l := []api.Node{open(t, c, 0), open(t, c, 1)}
	l = append(l, step(t, c, l[0], acquire(api.ModeS), tick), step(t, c, l[1], append([]api.Event{acquire(api.ModeX)}, ticks(12)...)...), step(t, c, l[1], api.Event{Kind: api.EventRestart}))
	// The token goes away from node 0, and comes to node 1.
	_, _, out, _ := node.Step(c, l[1], acquire(api.ModeX))
	_, _, back, _ := node.Step(c, l[0], api.Event{Kind: api.EventHear, From: 1, Bytes: out[0].Bytes})
	l = append(l, step(t, c, l[0], api.Event{Kind: api.EventHear, From: 1, Bytes: out[0].Bytes}), step(t, c, l[1], acquire(api.ModeX), api.Event{Kind: api.EventHear, From: 0, Bytes: back[0].Bytes}))
	return l
}

// TestThereAndBack: P24.1, P24.3, Read of Bytes; of which one bit is turned over is none.
func TestThereAndBack(t *testing.T) {
	c := config(2)
	for i, n := range nodes(t, c) {
		b, e := image.Bytes(c, n)
		x, f := image.Read(c, b)
		if !node.Same(x, n) || e != api.OK || f != api.OK {
			t.Errorf("%d: %v %v %v", i, x, e, f)
		}
		if many, e := image.Size(c, n); many != len(b) || e != api.OK {
			t.Errorf("%d: Size %d %v", i, many, e)
		}
		if _, e := image.Read(c, append(slices.Clone(b), 0)); e != api.ErrImage {
			t.Errorf("%d: bytes behind the frame: %v", i, e)
		}
		for cut := range b {
			if _, e := image.Read(c, b[:cut]); e != api.ErrEnds {
				t.Errorf("%d: cut at %d: %v", i, cut, e)
			}
		}
		for bit := 8; bit < 8*len(b); bit++ {
			y := slices.Clone(b)
			y[bit/8] ^= 1 << (bit % 8)
			if x, e := image.Read(c, y); e == api.OK || !node.Same(x, api.Node{}) {
				t.Errorf("%d: bit %d: %v", i, bit, e)
			}
		}
		raw := inner(t, c, n)
		for cut := range raw {
			if _, e := image.Read(c, sealed(raw[:cut])); e != api.ErrImage {
				t.Errorf("%d: bytes cut at %d: %v", i, cut, e)
			}
		}
		if _, e := image.Read(c, sealed(append(raw, 0))); e != api.ErrImage {
			t.Errorf("%d: more bytes: %v", i, e)
		}
	}
}

// TestReadWrong: P24.1, bytes that are no node's.
func TestReadWrong(t *testing.T) {
	c := config(1)
	raw := inner(t, c, open(t, c, 0))
	for at, n := range raw {
		wrong := slices.Concat(raw[:at], octet.Number(math.MaxUint64), raw[at+1:])
		signed := at == len(raw)-3 || at == 18 || at == 19 || at == 30 || at == 31 || at == 37
		if x, e := image.Read(c, sealed(wrong)); !signed && (e != api.ErrImage || !node.Same(x, api.Node{})) {
			t.Errorf("at %d in place of %d: %v", at, n, e)
		}
		if _, e := image.Read(c, sealed(slices.Concat(raw[:at], []byte{0x80, 0}, raw[at+1:]))); e != api.ErrImage {
			t.Errorf("form at %d: %v", at, e)
		}
	}
	for _, at := range []int{9, 10, 11, 12} { // truths
		if _, e := image.Read(c, sealed(slices.Concat(raw[:at], []byte{2}, raw[at+1:]))); e != api.ErrImage {
			t.Errorf("a truth at %d: %v", at, e)
		}
	}
	for _, r := range []struct {
		b    []byte
		want api.Errno
	}{{nil, api.ErrEnds}, {[]byte{0x80, 0}, api.ErrForm}, {octet.Number(api.MaxFrame + 1), api.ErrLong}, {make([]byte, 5), api.ErrSum}, {sealed(nil), api.ErrImage}} {
		if _, e := image.Read(c, r.b); e != r.want {
			t.Errorf("%x: %v", r.b, e)
		}
	}
	b, _ := image.Bytes(c, open(t, c, 0))
	if _, e := image.Read(config(2), b); e != api.ErrImage {
		t.Errorf("of another config: %v", e)
	}
	for _, bad := range []api.Config{{}, {Shape: c.Shape}} {
		x, e1 := image.Bytes(bad, open(t, c, 0))
		_, e2 := image.Read(bad, nil)
		n, e3 := image.Size(bad, open(t, c, 0))
		y, e4 := image.Event(bad, 0, tick)
		_, e5 := image.ReadEvent(bad, 0, nil)
		if e1 != api.ErrArg || e2 != api.ErrArg || e3 != api.ErrArg || e4 != api.ErrArg || e5 != api.ErrArg || x != nil || n != 0 || y != nil {
			t.Errorf("a config that may not be: %v %v %v %v %v", e1, e2, e3, e4, e5)
		}
		for range image.Events(bad, 0, []byte{2}) {
			t.Error("events of no config")
		}
	}
	n := open(t, c, 0)
	n.Now = -1
	if x, e := image.Bytes(c, n); x != nil || e != api.ErrArg {
		t.Errorf("a node that may not be: %v", e)
	}
	if x, e := image.Size(c, n); x != 0 || e != api.ErrArg {
		t.Errorf("Size of a node that may not be: %v", e)
	}
}

// TestLong: P24.1, P24.2, great nodes fit into a frame; more bytes of an event than that are too many.
func TestLong(t *testing.T) {
	c := config(64)
	c.Shape.Locks, c.Shape.Slots = 8, 4
	c.Forms = make([]api.Form, 8)
	n := open(t, c, 0)
	if b, e := image.Bytes(c, n); e != api.OK || len(b) < 8*256 {
		t.Fatalf("Bytes: %v", e)
	}
	for i := range n.Locks {
		l := &n.Locks[i]
		l.Has, l.Last, l.Token = true, 1, api.Token{Hop: 1, Over: make([]int64, 256)}
		for s := range l.Known {
			l.Token.Over[s] = api.MaxUse - 1
			l.Token.Wait = append(l.Token.Wait, api.Waiting{Site: s, Use: api.MaxUse, Mode: api.ModeX})
			if s >= 4 {
				l.Known[s] = api.Stat{Over: api.MaxUse - 1, Pending: true, Mode: api.ModeX}
			}
		}
	}
	if e := node.Check(c, n); e != api.OK {
		t.Fatalf("Check: %v", e)
	}
	b, e := image.Bytes(c, n)
	if x, f := image.Read(c, b); e != api.OK || f != api.OK || !node.Same(x, n) {
		t.Errorf("a great one: %v %v", e, f)
	}
	for many, want := range map[int]api.Errno{api.MaxFrame - 5: api.OK, api.MaxFrame - 4: api.ErrLong} {
		b, e := image.Event(c, 0, api.Event{Kind: api.EventHear, From: 1, Bytes: make([]byte, many)})
		if e != want || e != api.OK && b != nil {
			t.Errorf("an event of %d bytes: %v", many, e)
		}
	}
}

// TestEvents: P24.2, P24.3.
func TestEvents(t *testing.T) {
	c := config(3)
	for b, x := range map[string]api.Event{
		"\x02": tick, "\x04": {Kind: api.EventRestart}, "\x01\x05\x00\x00\x03": {Kind: api.EventAsk, Ask: api.Ask{Kind: api.AskPoll, Use: 3}}, "\x01\x01\x00\x05\x00\x00": acquire(api.ModeX), "\x03\x02\x03abc": {Kind: api.EventHear, From: 2, Bytes: []byte("abc")}, "\x03\x00\x00": {Kind: api.EventHear},
	} {
		if got, e := image.Event(c, 1, x); string(got) != b || e != api.OK {
			t.Errorf("Event(%v) = %x %v", x, got, e)
		}
		got, e := image.ReadEvent(c, 1, []byte(b))
		if got.Kind != x.Kind || got.Ask != x.Ask || got.From != x.From || !bytes.Equal(got.Bytes, x.Bytes) || e != api.OK {
			t.Errorf("ReadEvent(%x) = %v %v", b, got, e)
		}
		for cut := range b {
			if _, e := image.ReadEvent(c, 1, []byte(b[:cut])); e != api.ErrImage {
				t.Errorf("cut at %d of %x: %v", cut, b, e)
			}
		}
		if _, e := image.ReadEvent(c, 1, []byte(b+"\x00")); e != api.ErrImage {
			t.Errorf("more than %x: %v", b, e)
		}
		for _, me := range []int{-1, 3} {
			y, e1 := image.Event(c, me, x)
			_, e2 := image.ReadEvent(c, me, nil)
			if e1 != api.ErrArg || e2 != api.ErrArg || y != nil {
				t.Errorf("node %d: %v %v", me, e1, e2)
			}
		}
	}
	for _, b := range []string{"", "\x00", "\x05", "\x02\x00", "\x01\x08", "\x01\x05\x01\x00\x03", "\x03\x01\x00", "\x03\x03\x00", "\x03\x02\x04abc", "\x82\x00", "\xff\xff\xff\xff\xff\xff\xff\xff\xff\x01"} {
		if x, e := image.ReadEvent(c, 1, []byte(b)); e != api.ErrImage || x.Kind != 0 || x.Bytes != nil {
			t.Errorf("ReadEvent(%x) = %v %v", b, x, e)
		}
	}
	for _, x := range []api.Event{{}, {Kind: 5}, {Kind: api.EventHear, From: 1}, {Kind: api.EventTick, From: 1}} {
		if b, e := image.Event(c, 1, x); b != nil || e != api.ErrArg {
			t.Errorf("Event(%v): %v", x, e)
		}
	}
}

// TestGoOver: P24.2, as far as those that are none.
func TestGoOver(t *testing.T) {
	c := config(3)
	l := [][]byte{{2}, []byte("\x03\x02\x03abc"), {4}, {9}, {2}}
	seq := image.Events(c, 1, l...)
	for range 2 {
		var kinds []api.EventKind
		for i, x := range seq {
			if i != len(kinds) || i == 1 && string(x.Bytes) != "abc" {
				t.Errorf("%d: %v", i, x)
			}
			kinds = append(kinds, x.Kind)
		}
		if !slices.Equal(kinds, []api.EventKind{2, 3, 4}) {
			t.Errorf("Events: %v", kinds)
		}
	}
	for i := range seq {
		if i != 0 {
			t.Errorf("first: %d", i)
		}
		break
	}
}

// TestAnyBytes: P24.3, what is read from bytes is told as those bytes.
func TestAnyBytes(t *testing.T) {
	r := rand.New(rand.NewSource(22))
	c := config(2)
	all := nodes(t, c)
	read := 0
	for range 4000 {
		b := inner(t, c, all[r.Intn(len(all))])
		b[r.Intn(len(b))] = byte(r.Intn(5))
		n, e := image.Read(c, sealed(b))
		if e != api.OK {
			continue
		}
		read++
		if x, e := image.Bytes(c, n); !bytes.Equal(x, sealed(b)) || e != api.OK {
			t.Fatalf("%x is told as %x, %v", b, x, e)
		}
	}
	if read < 300 {
		t.Errorf("only %d were read", read)
	}
}
