package owner_test

import (
	"math"
	"math/rand"
	"slices"
	"testing"

	"castellan/api"
	"castellan/owner"
)

var four = api.Shape{Nodes: 4, Locks: 1, Slots: 1}

func o(node int, hop int64) api.Owner { return api.Owner{Node: node, Hop: hop} }

// wrong are guesses of four nodes that may not be.
var wrong = []api.Owner{o(-1, 0), o(4, 0), o(math.MaxInt, 0), o(0, -1), o(0, api.MaxHop+1), o(0, math.MinInt64)}

// TestCheckBetter: P16.1.
func TestCheckBetter(t *testing.T) {
	for _, x := range []api.Owner{{}, o(3, api.MaxHop)} {
		if e := owner.Check(four, x); e != api.OK {
			t.Errorf("%v: %v", x, e)
		}
		if e := owner.Check(api.Shape{Nodes: 4}, x); e != api.ErrArg {
			t.Errorf("no shape: %v", e)
		}
	}
	for _, x := range wrong {
		if e := owner.Check(four, x); e != api.ErrArg {
			t.Errorf("%v: %v", x, e)
		}
	}
	for _, c := range [][3]api.Owner{{o(1, 2), o(2, 3), o(2, 3)}, {o(1, 3), o(2, 2), o(1, 3)}, {o(1, 3), o(2, 3), o(1, 3)}, {o(9, -5), o(8, -4), o(8, -4)}} {
		if got := owner.Better(c[0], c[1]); got != c[2] {
			t.Errorf("Better(%v, %v) = %v", c[0], c[1], got)
		}
	}
}

// TestOn: P16.2, the reasons to stay, one by one.
func TestOn(t *testing.T) {
	for _, c := range []struct {
		me int
		x  api.Seek
		on bool
	}{
		{1, api.Seek{Own: o(2, 5), Origin: 0, Hop: 4}, true}, {1, api.Seek{Has: true, Own: o(2, 5), Origin: 0, Hop: 4}, false}, {1, api.Seek{Own: o(1, 5), Origin: 0, Hop: 4}, false},
		{1, api.Seek{Own: o(2, 5), Origin: 2, Hop: 4}, false}, {1, api.Seek{Own: o(2, 5), Origin: 0, Hop: 5}, false}, {1, api.Seek{Own: o(2, 5), Origin: 0, Hop: 6}, false}, {1, api.Seek{Own: o(2, 5), Origin: 1, Hop: 0}, true},
	} {
		want := api.Owner{}
		if c.on {
			want = o(2, 5)
		}
		if got, on, e := owner.On(four, c.me, c.x); got != want || on != c.on || e != api.OK {
			t.Errorf("On(%d, %v) = %v %v %v", c.me, c.x, got, on, e)
		}
	}
	ok := api.Seek{Own: o(2, 5), Origin: 0, Hop: 4}
	bad := []api.Seek{{Own: o(2, 5), Origin: -1}, {Own: o(2, 5), Origin: 4}, {Own: o(2, 5), Hop: -1}, {Own: o(2, 5), Hop: api.MaxHop + 1}}
	for _, x := range wrong {
		bad = append(bad, api.Seek{Own: x, Has: true})
	}
	for _, x := range bad {
		if got, on, e := owner.On(four, 1, x); got != (api.Owner{}) || on || e != api.ErrArg {
			t.Errorf("On(%v): %v", x, e)
		}
	}
	for _, me := range []int{-1, 4, math.MaxInt} {
		if _, _, e := owner.On(four, me, ok); e != api.ErrArg {
			t.Errorf("at node %d: %v", me, e)
		}
	}
	if _, _, e := owner.On(api.Shape{}, 0, api.Seek{}); e != api.ErrArg {
		t.Errorf("no shape: %v", e)
	}
}

// TestFirst: P16.2.
func TestFirst(t *testing.T) {
	for _, c := range []struct {
		me   int
		own  api.Owner
		all  bool
		want []int
	}{{1, o(1, 4), false, []int{0, 2, 3}}, {1, o(2, 4), true, []int{0, 2, 3}}, {1, o(2, 4), false, []int{2}}, {3, o(3, 0), true, []int{0, 1, 2}}} {
		if l, e := owner.First(four, c.me, c.own, c.all); !slices.Equal(l, c.want) || e != api.OK {
			t.Errorf("First(%d, %v, %v) = %v %v", c.me, c.own, c.all, l, e)
		}
	}
	if l, e := owner.First(api.Shape{Nodes: 1, Locks: 1, Slots: 1}, 0, o(0, 1), true); len(l) != 0 || e != api.OK {
		t.Errorf("one node alone: %v %v", l, e)
	}
	for _, x := range wrong {
		if l, e := owner.First(four, 1, x, true); l != nil || e != api.ErrArg {
			t.Errorf("First(%v): %v", x, e)
		}
	}
	for _, me := range []int{-1, 4} {
		if l, e := owner.First(four, me, o(0, 0), true); l != nil || e != api.ErrArg {
			t.Errorf("at node %d: %v", me, e)
		}
	}
}

// way tells a way.
func way(s api.Shape, l []api.Owner, x api.Seek) []api.Owner {
	var w []api.Owner
	for n, hop := range owner.Way(s, l, x) {
		w = append(w, o(n, hop))
	}
	return w
}

// TestWay: P16.3.
func TestWay(t *testing.T) {
	l := []api.Owner{o(1, 3), o(2, 5), o(3, 6), o(3, 6)}
	x := api.Seek{Has: true, Own: o(-9, -9)}
	want := []api.Owner{o(1, 3), o(2, 5), o(3, 6)}
	if got := way(four, l, x); !slices.Equal(got, want) {
		t.Errorf("Way: %v", got)
	}
	if n, e := owner.Ends(four, l, x); n != 3 || e != api.OK {
		t.Errorf("Ends: %d %v", n, e)
	}
	for _, c := range []struct {
		x    api.Seek
		want []api.Owner
		ends int
	}{{api.Seek{Hop: 3}, nil, 0}, {api.Seek{Origin: 3}, nil, 3}, {api.Seek{Origin: 2, Hop: 5}, []api.Owner{o(3, 6)}, 3}, {api.Seek{Origin: 1, Hop: 4}, []api.Owner{o(2, 5), o(3, 6)}, 3}} {
		n, e := owner.Ends(four, l, c.x)
		if got := way(four, l, c.x); !slices.Equal(got, c.want) || n != c.ends || e != api.OK {
			t.Errorf("Way(%v): %v, ends %d %v", c.x, got, n, e)
		}
	}
	back := []api.Owner{o(1, 3), o(0, 5), o(0, 0), o(0, 0)}
	if n, _ := owner.Ends(four, back, api.Seek{}); n != 1 {
		t.Errorf("back to its origin: %d", n)
	}
	seq := owner.Way(four, l, x)
	for range 2 {
		for n, hop := range seq {
			if n != 1 || hop != 3 {
				t.Errorf("first: %d %d", n, hop)
			}
			break
		}
	}
}

// TestWayWrong: P16.3, beside an error there is no way.
func TestWayWrong(t *testing.T) {
	ok := []api.Owner{o(1, 3), o(2, 5), o(3, 6), o(3, 6)}
	type bad struct {
		s api.Shape
		l []api.Owner
		x api.Seek
	}
	l := []bad{{api.Shape{}, nil, api.Seek{}}, {four, nil, api.Seek{}}, {four, ok[:3], api.Seek{}}, {four, append(slices.Clone(ok), o(0, 0)), api.Seek{}}, {four, ok, api.Seek{Origin: -1}}, {four, ok, api.Seek{Origin: 4}}, {four, ok, api.Seek{Hop: -1}}, {four, ok, api.Seek{Hop: api.MaxHop + 1}}}
	for _, w := range wrong {
		l = append(l, bad{four, []api.Owner{o(1, 3), o(2, 5), o(3, 6), w}, api.Seek{}})
	}
	for _, b := range l {
		n, e := owner.Ends(b.s, b.l, b.x)
		if got := way(b.s, b.l, b.x); got != nil || n != 0 || e != api.ErrArg {
			t.Errorf("%v: %v, %d %v", b, got, n, e)
		}
	}
}

// TestRises: P16.4, what is carried rises, and the way ends where the token went last.
func TestRises(t *testing.T) {
	r := rand.New(rand.NewSource(14))
	for range 500 {
		s := api.Shape{Nodes: 2 + r.Intn(9), Locks: 1, Slots: 1}
		l := make([]api.Owner, s.Nodes)
		at := 0
		for i := range l {
			l[i] = o(0, 1)
		}
		for hop := int64(2); hop < 20; hop++ {
			to := r.Intn(s.Nodes)
			if to == at {
				continue
			}
			l[at], l[to] = o(to, hop), o(to, hop)
			if n := r.Intn(s.Nodes); n != at {
				l[n] = o(to, hop) // somebody heard of it
			}
			at = to
		}
		x := api.Seek{Origin: r.Intn(s.Nodes)}
		last, many, came := int64(0), 0, false
		for n, hop := range owner.Way(s, l, x) {
			if hop <= last {
				t.Fatalf("%d behind %d", hop, last)
			}
			last, many, came = hop, many+1, came || l[n].Node == x.Origin
		}
		n, _ := owner.Ends(s, l, x)
		if many > s.Nodes || n != at && !came && l[x.Origin].Node != x.Origin {
			t.Fatalf("from %d over %v it ends at %d, not %d", x.Origin, l, n, at)
		}
	}
}
