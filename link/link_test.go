package link_test

import (
	"math"
	"math/rand"
	"slices"
	"testing"

	"castellan/api"
	"castellan/link"
)

const last = api.MaxStamp

// open tells a new link.
func open(t *testing.T, nodes int) api.Link {
	t.Helper()
	l, e := link.New(nodes)
	if e != api.OK {
		t.Fatalf("New(%d): %v", nodes, e)
	}
	return l
}

func stamp(inc, seq int64) api.Stamp { return api.Stamp{Inc: inc, Seq: seq} }

// same tells whether two links are.
func same(a, b api.Link) bool {
	return a.Inc == b.Inc && slices.Equal(a.Out, b.Out) && slices.Equal(a.In, b.In)
}

// copied is another link with the same.
func copied(l api.Link) api.Link {
	return api.Link{Inc: l.Inc, Out: slices.Clone(l.Out), In: slices.Clone(l.In)}
}

// wrong are links that may not be.
func wrong() []api.Link {
	ok := func() api.Link {
		return api.Link{Inc: 1, Out: []int64{0, 1}, In: []api.Stamp{{}, {Inc: 1, Seq: 1}}}
	}
	l := []api.Link{{}, {Inc: 1}, {Inc: 1, Out: make([]int64, 65), In: make([]api.Stamp, 65)}, {Inc: 1, Out: make([]int64, 1), In: make([]api.Stamp, 2)}, {Inc: 1, Out: make([]int64, 2), In: make([]api.Stamp, 1)}}
	for _, inc := range []int64{0, -1, last + 1, math.MinInt64} {
		x := ok()
		x.Inc = inc
		l = append(l, x)
	}
	for _, n := range []int64{-1, last + 1, math.MinInt64, math.MaxInt64} {
		x := ok()
		x.Out[1] = n
		l = append(l, x)
	}
	for _, s := range []api.Stamp{stamp(0, 1), stamp(1, 0), stamp(-1, 1), stamp(1, -1), stamp(last+1, 1), stamp(1, last+1)} {
		x := ok()
		x.In[1] = s
		l = append(l, x)
	}
	return l
}

// TestNewCheck: P11.1.
func TestNewCheck(t *testing.T) {
	for _, n := range []int{0, -1, 65, math.MaxInt, math.MinInt} {
		if l, e := link.New(n); !same(l, api.Link{}) || e != api.ErrArg {
			t.Errorf("New(%d): %v %v", n, l, e)
		}
	}
	for _, n := range []int{1, 2, 64} {
		l := open(t, n)
		if !same(l, api.Link{Inc: 1, Out: make([]int64, n), In: make([]api.Stamp, n)}) || link.Check(l) != api.OK {
			t.Errorf("New(%d) = %v", n, l)
		}
	}
	if e := link.Check(api.Link{Inc: last, Out: []int64{last}, In: []api.Stamp{stamp(last, last)}}); e != api.OK {
		t.Errorf("at the bounds: %v", e)
	}
	for _, l := range wrong() {
		a, x, e1 := link.Send(l, -1)
		b, ok, e2 := link.Take(l, -1, stamp(1, 1))
		c, e3 := link.Restart(l)
		for i, e := range []api.Errno{link.Check(l), e1, e2, e3} {
			if e != api.ErrArg {
				t.Errorf("%d of %v: %v", i, l, e)
			}
		}
		if !same(a, api.Link{}) || !same(b, api.Link{}) || !same(c, api.Link{}) || x != (api.Stamp{}) || ok {
			t.Errorf("%v: something beside an error", l)
		}
		for range link.Taken(l, 0, stamp(1, 1)) {
			t.Errorf("%v takes something", l)
		}
	}
}

// TestOrder: P11.1, by Inc, then by Seq.
func TestOrder(t *testing.T) {
	l := []api.Stamp{stamp(math.MinInt64, math.MaxInt64), stamp(0, 0), stamp(1, 1), stamp(1, 2), stamp(2, 1), stamp(math.MaxInt64, math.MinInt64)}
	for i, a := range l {
		for j, b := range l {
			want := 0
			if i < j {
				want = -1
			} else if i > j {
				want = 1
			}
			if got := link.Order(a, b); got != want {
				t.Errorf("Order(%v, %v) = %d", a, b, got)
			}
		}
	}
}

// TestSend: P11.2, stamps rise; a restart begins anew.
func TestSend(t *testing.T) {
	l := open(t, 2)
	l.In[0] = stamp(3, 4)
	for i, want := range []api.Stamp{stamp(1, 1), stamp(1, 2), stamp(2, 1)} {
		if i == 2 {
			var e api.Errno
			was := copied(l)
			after, e := link.Restart(l)
			if e != api.OK || !same(l, was) || after.Inc != 2 || after.Out[1] != 0 || after.In[0] != stamp(3, 4) {
				t.Fatalf("Restart: %v %v", after, e)
			}
			l = after
		}
		was := copied(l)
		next, s, e := link.Send(l, 1)
		if s != want || e != api.OK || !same(l, was) || next.Out[1] != want.Seq || next.Out[0] != 0 || !slices.Equal(next.In, l.In) || next.Inc != want.Inc {
			t.Errorf("Send: %v %v %v", next, s, e)
		}
		l = next
	}
	for _, to := range []int{-1, 2, math.MaxInt, math.MinInt} {
		if x, s, e := link.Send(l, to); !same(x, api.Link{}) || s != (api.Stamp{}) || e != api.ErrRange {
			t.Errorf("Send to %d: %v", to, e)
		}
	}
	end := api.Link{Inc: last, Out: []int64{last - 1, last}, In: make([]api.Stamp, 2)}
	if x, s, e := link.Send(end, 0); s != stamp(last, last) || e != api.OK || x.Out[0] != last {
		t.Errorf("Send the last one: %v %v", s, e)
	}
	if x, s, e := link.Send(end, 1); !same(x, api.Link{}) || s != (api.Stamp{}) || e != api.ErrStamps {
		t.Errorf("Send behind the last one: %v", e)
	}
	if x, e := link.Restart(end); !same(x, api.Link{}) || e != api.ErrStamps {
		t.Errorf("Restart behind the last one: %v", e)
	}
	end.Inc--
	if x, e := link.Restart(end); x.Inc != last || e != api.OK {
		t.Errorf("the last Restart: %v", e)
	}
}

// TestTake: P11.2, what stands behind is taken; else the link stays.
func TestTake(t *testing.T) {
	l := open(t, 2)
	for i, c := range []struct {
		s  api.Stamp
		ok bool
	}{{stamp(1, 2), true}, {stamp(1, 1), false}, {stamp(1, 2), false}, {stamp(2, 1), true}, {stamp(1, last), false}, {stamp(last, 1), true}, {stamp(last, last), true}, {stamp(last, last), false}} {
		was := copied(l)
		next, ok, e := link.Take(l, 1, c.s)
		want := copied(l)
		if c.ok {
			want.In[1] = c.s
		}
		if ok != c.ok || e != api.OK || !same(next, want) || !same(l, was) {
			t.Errorf("%d: Take(%v) = %v %v %v", i, c.s, next, ok, e)
		}
		l = next
	}
	for _, s := range []api.Stamp{{}, stamp(0, 1), stamp(1, 0), stamp(-1, 1), stamp(last+1, 1), stamp(1, last+1)} {
		if x, ok, e := link.Take(l, 9, s); !same(x, api.Link{}) || ok || e != api.ErrArg {
			t.Errorf("Take(%v): %v", s, e)
		}
	}
	for _, from := range []int{-1, 2, math.MaxInt} {
		if x, ok, e := link.Take(l, from, stamp(1, 1)); !same(x, api.Link{}) || ok || e != api.ErrRange {
			t.Errorf("Take from %d: %v", from, e)
		}
	}
}

// TestTaken: P11.3, as far as one that may not be.
func TestTaken(t *testing.T) {
	l := open(t, 2)
	l.In[0] = stamp(1, 3)
	in := []api.Stamp{stamp(1, 3), stamp(1, 5), stamp(1, 4), stamp(1, 5), stamp(2, 1), stamp(0, 1), stamp(3, 1)}
	seq := link.Taken(l, 0, in...)
	for range 2 {
		var at []int
		var got []api.Stamp
		for i, s := range seq {
			at, got = append(at, i), append(got, s)
		}
		if !slices.Equal(at, []int{1, 4}) || !slices.Equal(got, []api.Stamp{stamp(1, 5), stamp(2, 1)}) {
			t.Errorf("Taken: %v %v", at, got)
		}
	}
	for i := range seq {
		if i != 1 {
			t.Errorf("first: %d", i)
		}
		break
	}
	for _, from := range []int{-1, 2} {
		for range link.Taken(l, from, stamp(9, 10)) {
			t.Errorf("from node %d something is taken", from)
		}
	}
}

// TestOnce: P11.4, in any order, any number of times: each once at most, and in the order of sending.
func TestOnce(t *testing.T) {
	r := rand.New(rand.NewSource(9))
	for range 300 {
		from, to := open(t, 3), open(t, 3)
		var sent []api.Stamp
		for range 20 {
			if r.Intn(5) == 0 {
				from, _ = link.Restart(from)
				continue
			}
			var s api.Stamp
			from, s, _ = link.Send(from, 2)
			sent = append(sent, s)
		}
		taken := -1
		for range 60 {
			i := r.Intn(len(sent))
			var ok bool
			to, ok, _ = link.Take(to, 1, sent[i])
			if ok != (i > taken) {
				t.Fatalf("%d behind %d: %v", i, taken, ok)
			}
			taken = max(taken, i)
		}
	}
}
