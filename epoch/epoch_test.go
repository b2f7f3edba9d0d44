package epoch_test

import (
	"math"
	"math/rand"
	"slices"
	"testing"

	"castellan/api"
	"castellan/epoch"
)

var three = api.Shape{Nodes: 3, Locks: 1, Slots: 1}

func ep(count int64, node int) api.Epoch { return api.Epoch{Count: count, Node: node} }

func promise(e api.Epoch, frozen bool) api.Promise { return api.Promise{Epoch: e, Frozen: frozen} }

// wrong are epochs of three nodes that may not be.
var wrong = []api.Epoch{ep(-1, 0), ep(api.MaxCount+1, 0), ep(math.MinInt64, 0), ep(0, -1), ep(0, 3), ep(0, math.MaxInt)}

// TestCheck: P17.1.
func TestCheck(t *testing.T) {
	for _, e := range []api.Epoch{{}, ep(0, 2), ep(api.MaxCount, 2)} {
		if x := epoch.Check(three, e); x != api.OK {
			t.Errorf("%v: %v", e, x)
		}
	}
	for _, e := range wrong {
		n, e1 := epoch.Next(three, e, 0)
		p, ok, e2 := epoch.Ask(three, promise(e, true), ep(1, 1))
		q, ok2, e3 := epoch.Ask(three, api.Promise{}, e)
		r, ok3, e4 := epoch.Hear(three, promise(e, true), e)
		_, _, e5 := epoch.Hear(three, api.Promise{}, e)
		for i, x := range []api.Errno{epoch.Check(three, e), e1, e2, e3, e4, e5} {
			if x != api.ErrArg {
				t.Errorf("%d of %v: %v", i, e, x)
			}
		}
		if n != (api.Epoch{}) || p != (api.Promise{}) || q != p || r != p || ok || ok2 || ok3 {
			t.Errorf("%v: something beside an error", e)
		}
	}
	for _, s := range []api.Shape{{}, {Nodes: 3}, {Nodes: 65, Locks: 1, Slots: 1}} {
		_, e1 := epoch.Next(s, api.Epoch{}, 0)
		_, _, e2 := epoch.Ask(s, api.Promise{}, ep(1, 0))
		_, _, e3 := epoch.Hear(s, api.Promise{}, api.Epoch{})
		if epoch.Check(s, api.Epoch{}) != api.ErrArg || e1 != api.ErrArg || e2 != api.ErrArg || e3 != api.ErrArg {
			t.Errorf("%v: %v %v %v", s, e1, e2, e3)
		}
	}
}

// TestOrder: P17.1, P17.4, by Count, then by Node.
func TestOrder(t *testing.T) {
	l := []api.Epoch{ep(math.MinInt64, math.MaxInt), ep(-1, 0), ep(0, 0), ep(0, 1), ep(4, 2), ep(5, math.MinInt), ep(5, 0), ep(math.MaxInt64, 0)}
	for i, a := range l {
		for j, b := range l {
			want := 0
			if i < j {
				want = -1
			} else if i > j {
				want = 1
			}
			if got := epoch.Order(a, b); got != want {
				t.Errorf("Order(%v, %v) = %d", a, b, got)
			}
		}
	}
}

// TestNextLatest: P17.1, P17.4.
func TestNextLatest(t *testing.T) {
	if e, x := epoch.Next(three, ep(4, 2), 0); e != ep(5, 0) || x != api.OK {
		t.Errorf("Next: %v %v", e, x)
	}
	if e, x := epoch.Next(three, ep(api.MaxCount-1, 2), 1); e != ep(api.MaxCount, 1) || x != api.OK {
		t.Errorf("the last one: %v %v", e, x)
	}
	if e, x := epoch.Next(three, ep(api.MaxCount, 2), 1); e != (api.Epoch{}) || x != api.ErrCount {
		t.Errorf("behind the last one: %v %v", e, x)
	}
	for _, me := range []int{-1, 3, math.MaxInt} {
		if e, x := epoch.Next(three, ep(api.MaxCount, 0), me); e != (api.Epoch{}) || x != api.ErrArg {
			t.Errorf("node %d: %v", me, x)
		}
	}
	for _, c := range []struct {
		l    []api.Epoch
		want api.Epoch
	}{{nil, ep(0, 0)}, {[]api.Epoch{ep(-5, 3)}, ep(0, 0)}, {[]api.Epoch{ep(4, 2), ep(5, 0), ep(4, 3)}, ep(5, 0)}, {[]api.Epoch{ep(4, 1), ep(4, 2), ep(4, 0)}, ep(4, 2)}} {
		if e := epoch.Latest(c.l...); e != c.want {
			t.Errorf("Latest(%v) = %v", c.l, e)
		}
	}
}

// TestAskHear: P17.2.
func TestAskHear(t *testing.T) {
	for _, frozen := range []bool{false, true} {
		p := promise(ep(4, 1), frozen)
		for _, c := range []struct {
			e    api.Epoch
			want api.Promise
			ok   bool
		}{{ep(4, 2), promise(ep(4, 2), true), true}, {ep(4, 0), p, false}, {ep(4, 1), p, false}, {ep(3, 2), p, false}, {ep(5, 0), promise(ep(5, 0), true), true}} {
			if q, ok, e := epoch.Ask(three, p, c.e); q != c.want || ok != c.ok || e != api.OK {
				t.Errorf("Ask(%v, %v) = %v %v %v", p, c.e, q, ok, e)
			}
		}
		for _, c := range []struct {
			e    api.Epoch
			want api.Promise
			ok   bool
		}{{ep(4, 1), promise(ep(4, 1), false), true}, {ep(4, 0), p, false}, {ep(4, 2), p, false}, {ep(5, 1), p, false}} {
			if q, ok, e := epoch.Hear(three, p, c.e); q != c.want || ok != c.ok || e != api.OK {
				t.Errorf("Hear(%v, %v) = %v %v %v", p, c.e, q, ok, e)
			}
		}
	}
}

// TestRising: P17.3, the first one too, whatever it is.
func TestRising(t *testing.T) {
	in := []api.Epoch{ep(-3, 1), ep(-3, 1), ep(0, 0), ep(2, 1), ep(2, 0), ep(1, 2), ep(2, 2), ep(2, 2)}
	seq := epoch.Rising(in...)
	for range 2 {
		var at []int
		var got []api.Epoch
		for i, e := range seq {
			at, got = append(at, i), append(got, e)
		}
		if !slices.Equal(at, []int{0, 2, 3, 6}) || !slices.Equal(got, []api.Epoch{ep(-3, 1), ep(0, 0), ep(2, 1), ep(2, 2)}) {
			t.Errorf("Rising: %v %v", at, got)
		}
	}
	for i := range seq {
		if i != 0 {
			t.Errorf("first: %d", i)
		}
		break
	}
	for range epoch.Rising() {
		t.Error("of nothing one is later")
	}
}

// TestNeverBack: P17.4, whatever is asked and heard.
func TestNeverBack(t *testing.T) {
	r := rand.New(rand.NewSource(15))
	for range 300 {
		var p api.Promise
		counted := map[api.Epoch]bool{}
		last := ep(0, 0)
		for range 60 {
			e := ep(int64(r.Intn(6)), r.Intn(3))
			next, _ := epoch.Next(three, p.Epoch, r.Intn(3))
			if epoch.Order(next, p.Epoch) != 1 {
				t.Fatalf("%v is not later than %v", next, p.Epoch)
			}
			was := p
			if r.Intn(2) == 0 {
				p, _, _ = epoch.Ask(three, p, e)
			} else {
				var ok bool
				p, ok, _ = epoch.Hear(three, p, e)
				if ok && counted[e] && e != last {
					t.Fatalf("%v counts again behind %v", e, last)
				}
				if ok {
					counted[e], last = true, e
				}
			}
			if epoch.Order(p.Epoch, was.Epoch) < 0 {
				t.Fatalf("%v goes back to %v", was, p)
			}
		}
	}
}
