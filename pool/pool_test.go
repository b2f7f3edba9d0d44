package pool_test

import (
	"bytes"
	"math"
	"math/rand"
	"slices"
	"testing"

	"castellan/api"
	"castellan/pool"
)

// open tells a new pool.
func open(t *testing.T, nodes int) *pool.Pool {
	t.Helper()
	p, e := pool.New(nodes)
	if e != api.OK || p == nil {
		t.Fatalf("New(%d): %v", nodes, e)
	}
	return p
}

// packet is one of a text.
func packet(from, to int, s string) api.Packet {
	return api.Packet{From: from, To: to, Bytes: []byte(s)}
}

// same tells whether two packets are.
func same(a, b api.Packet) bool {
	return a.From == b.From && a.To == b.To && bytes.Equal(a.Bytes, b.Bytes)
}

// has holds a pool's packets against what is wanted.
func has(t *testing.T, p *pool.Pool, want ...api.Packet) {
	t.Helper()
	if p.Len() != len(want) {
		t.Errorf("Len %d, not %d", p.Len(), len(want))
	}
	seq := p.All()
	for range 2 {
		next := 0
		for at, x := range seq {
			if at != next || at >= len(want) || !same(x, want[at]) {
				t.Errorf("place %d: %v", at, x)
			}
			next++
		}
		if next != len(want) {
			t.Errorf("%d packets, not %d", next, len(want))
		}
	}
	for i, w := range want {
		if x, e := p.Peek(i); e != api.OK || !same(x, w) {
			t.Errorf("Peek(%d): %v %v", i, x, e)
		}
	}
}

// TestExample: P10.1, P10.2.
func TestExample(t *testing.T) {
	p := open(t, 3)
	a, b := packet(0, 1, "ab"), packet(1, 2, "c")
	if e := p.Put(a, b); e != api.OK {
		t.Errorf("Put: %v", e)
	}
	if e := p.Double(0); e != api.OK {
		t.Errorf("Double: %v", e)
	}
	has(t, p, a, b, a)
	if x, e := p.Take(1); !same(x, b) || e != api.OK {
		t.Errorf("Take: %v %v", x, e)
	}
	has(t, p, a, a)
	if l := p.To(1); !slices.Equal(l, []int{0, 1}) {
		t.Errorf("To(1): %v", l)
	}
	for _, n := range []int{0, 2, 3, -1} {
		if l := p.To(n); len(l) != 0 {
			t.Errorf("To(%d): %v", n, l)
		}
	}
	for at := range p.All() {
		if at != 0 {
			t.Errorf("first: %d", at)
		}
		break
	}
}

// TestWrong: P10.1, the errors in their order.
func TestWrong(t *testing.T) {
	for _, n := range []int{0, -1, api.MaxNodes + 1, math.MaxInt, math.MinInt} {
		if p, e := pool.New(n); p != nil || e != api.ErrArg {
			t.Errorf("New(%d): %v", n, e)
		}
	}
	open(t, 1)
	open(t, api.MaxNodes)
	p := open(t, 3)
	long := string(make([]byte, api.MaxFrame+1))
	for _, x := range []api.Packet{packet(0, 0, "x"), packet(-1, 0, long), packet(0, -1, ""), packet(3, 0, ""), packet(0, 3, long), packet(math.MinInt, math.MaxInt, "")} {
		if e := p.Put(x); e != api.ErrArg {
			t.Errorf("Put %d to %d: %v", x.From, x.To, e)
		}
	}
	if e := p.Put(packet(0, 1, long)); e != api.ErrLong {
		t.Errorf("too long: %v", e)
	}
	if e := p.Put(); e != api.OK {
		t.Errorf("nothing: %v", e)
	}
	has(t, p)
	great := packet(0, 1, long[1:])
	if e := p.Put(great, packet(2, 0, "y"), packet(1, 1, "z"), packet(0, 1, "w")); e != api.ErrArg {
		t.Errorf("one that may not be: %v", e)
	}
	has(t, p, great, packet(2, 0, "y"))
	for _, at := range []int{-1, 2, 9, math.MaxInt, math.MinInt} {
		x, e1 := p.Take(at)
		y, e2 := p.Peek(at)
		if e1 != api.ErrRange || e2 != api.ErrRange || p.Double(at) != api.ErrRange || !same(x, api.Packet{}) || !same(y, api.Packet{}) {
			t.Errorf("place %d: %v %v", at, e1, e2)
		}
	}
}

// TestCrowd: P10.1, as many as may be.
func TestCrowd(t *testing.T) {
	p := open(t, 2)
	for range api.MaxPackets - 1 {
		p.Put(packet(0, 1, "a"))
	}
	if e := p.Put(packet(1, 0, "b"), packet(0, 1, "c"), packet(0, 0, "d")); e != api.ErrCrowd || p.Len() != api.MaxPackets {
		t.Errorf("one too many: %v, %d", e, p.Len())
	}
	if x, _ := p.Peek(api.MaxPackets - 1); !same(x, packet(1, 0, "b")) {
		t.Errorf("the last one: %v", x)
	}
	if e := p.Double(0); e != api.ErrCrowd || p.Len() != api.MaxPackets {
		t.Errorf("Double: %v", e)
	}
	if e := p.Double(api.MaxPackets); e != api.ErrRange {
		t.Errorf("Double: %v", e)
	}
	long := string(make([]byte, api.MaxFrame+1))
	if e := p.Put(packet(0, 1, long)); e != api.ErrLong {
		t.Errorf("ErrLong first: %v", e)
	}
	if e := p.Put(packet(0, 0, long)); e != api.ErrArg {
		t.Errorf("ErrArg first: %v", e)
	}
	p.Take(5)
	if e := p.Double(0); e != api.OK || p.Len() != api.MaxPackets {
		t.Errorf("Double: %v", e)
	}
}

// TestNil: of no pool, and of one that no call made.
func TestNil(t *testing.T) {
	for _, p := range []*pool.Pool{nil, {}} {
		x, e1 := p.Take(-1)
		y, e2 := p.Peek(0)
		if e1 != api.ErrNil || e2 != api.ErrNil || p.Put(packet(0, 0, "")) != api.ErrNil || p.Put() != api.ErrNil || p.Double(-1) != api.ErrNil || !same(x, y) || !same(x, api.Packet{}) {
			t.Error("no pool does something")
		}
		if p.Len() != 0 || p.To(0) != nil || p.Copy() != nil {
			t.Error("no pool tells something")
		}
		for range p.All() {
			t.Error("no pool has packets")
		}
		if !pool.Same(p, nil) || !pool.Same(nil, p) || pool.Same(p, open(t, 1)) || pool.Same(open(t, 1), p) {
			t.Error("a nil one is like a nil one alone")
		}
	}
}

// TestCopySame: P10.3.
func TestCopySame(t *testing.T) {
	p := open(t, 3)
	p.Put(packet(0, 1, "a"), packet(0, 2, ""))
	for i, change := range []func(*pool.Pool){
		func(q *pool.Pool) { q.Take(0) }, func(q *pool.Pool) { q.Double(0) }, func(q *pool.Pool) { q.Put(packet(1, 0, "")) },
		func(q *pool.Pool) { x, _ := q.Take(0); q.Put(x) }, func(q *pool.Pool) { q.Take(1); q.Put(packet(1, 2, "")) }, func(q *pool.Pool) { q.Take(1); q.Put(packet(0, 2, "x")) },
	} {
		c := p.Copy()
		if !pool.Same(p, c) || !pool.Same(c, p) {
			t.Errorf("%d: a copy is another one", i)
		}
		change(c)
		if pool.Same(p, c) || pool.Same(c, p) {
			t.Errorf("%d: another one is the same", i)
		}
		has(t, p, packet(0, 1, "a"), packet(0, 2, ""))
	}
	if pool.Same(open(t, 2), open(t, 3)) {
		t.Error("another number of nodes is the same")
	}
	q := open(t, 3)
	q.Put(packet(0, 1, "a"), api.Packet{From: 0, To: 2, Bytes: []byte{}})
	if !pool.Same(p, q) {
		t.Error("nil and empty bytes are not the same")
	}
}

// TestApart: what is told is new memory, what is handed in is not kept.
func TestApart(t *testing.T) {
	p := open(t, 2)
	x := packet(0, 1, "abc")
	p.Put(x)
	p.Double(0)
	x.Bytes[0] = 'z'
	y, _ := p.Peek(0)
	y.Bytes[0] = 'y'
	for _, w := range p.All() {
		w.Bytes[0] = 'w'
	}
	c := p.Copy()
	v, _ := c.Take(0)
	v.Bytes[0] = 'v'
	has(t, p, packet(0, 1, "abc"), packet(0, 1, "abc"))
	has(t, c, packet(0, 1, "abc"))
}

// TestLife: P10.4, what is taken was put in; as many of each as were put in and doubled.
func TestLife(t *testing.T) {
	r := rand.New(rand.NewSource(8))
	p := open(t, 4)
	count := map[string]int{}
	var want []api.Packet
	for i := range 4000 {
		switch k := r.Intn(4); {
		case k < 2:
			x := packet(r.Intn(4), r.Intn(4), string(rune('a'+i%26)))
			if (p.Put(x) == api.OK) != (x.From != x.To) {
				t.Fatal("Put")
			} else if x.From != x.To {
				want = append(want, x)
				count[string(x.Bytes)]++
			}
		case k == 2 && len(want) > 0:
			at := r.Intn(len(want))
			p.Double(at)
			want = append(want, want[at])
			count[string(want[at].Bytes)]++
		case k == 3 && len(want) > 0:
			at := r.Intn(len(want))
			x, e := p.Take(at)
			if e != api.OK || !same(x, want[at]) {
				t.Fatalf("Take(%d): %v %v", at, x, e)
			}
			want = slices.Delete(want, at, at+1)
			count[string(x.Bytes)]--
		}
	}
	has(t, p, want...)
	for _, x := range p.All() {
		count[string(x.Bytes)]--
	}
	for s, n := range count {
		if n != 0 {
			t.Errorf("%s: %d", s, n)
		}
	}
}
