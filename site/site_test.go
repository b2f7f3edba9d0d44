package site_test

import (
	"math"
	"strings"
	"testing"

	"castellan/api"
	"castellan/site"
)

var (
	small    = api.Shape{Nodes: 3, Locks: 2, Slots: 2}
	greatest = api.Shape{Nodes: api.MaxNodes, Locks: api.MaxLocks, Slots: api.MaxSlots}
	wrong    = []api.Shape{{}, {Nodes: 1, Locks: 1}, {Nodes: 0, Locks: 1, Slots: 1}, {Nodes: 1, Locks: 0, Slots: 1}, {Nodes: 65, Locks: 1, Slots: 1}, {Nodes: 1, Locks: 9, Slots: 1}, {Nodes: 1, Locks: 1, Slots: 5},
		{Nodes: -1, Locks: 1, Slots: 1}, {Nodes: 1, Locks: -1, Slots: 1}, {Nodes: 1, Locks: 1, Slots: -1}, {Nodes: math.MaxInt, Locks: math.MaxInt, Slots: math.MaxInt}, {Nodes: math.MinInt, Locks: 1, Slots: 1}}
)

// TestShapes: P5.1, which shapes may be; of others all is refused.
func TestShapes(t *testing.T) {
	for _, s := range []api.Shape{small, greatest, {Nodes: 1, Locks: 1, Slots: 1}} {
		if e := site.Check(s); e != api.OK {
			t.Errorf("%v: %v", s, e)
		}
		if n, e := site.Sites(s); n != s.Nodes*s.Slots || e != api.OK {
			t.Errorf("Sites(%v) = %d %v", s, n, e)
		}
	}
	for _, s := range wrong {
		n, e1 := site.Sites(s)
		m, e2 := site.Site(s, 0, 0)
		a, b, e3 := site.Of(s, 0)
		text, e4 := site.Text(s, api.Ticket{Use: 1})
		x, e5 := site.Parse(s, "0.0.0.1")
		for i, e := range []api.Errno{site.Check(s), e1, e2, e3, e4, e5, site.Right(s, api.Ticket{Use: 1}), site.Right(s, api.Ticket{})} {
			if e != api.ErrArg {
				t.Errorf("%v, %d: %v", s, i, e)
			}
		}
		if n != 0 || m != 0 || a != 0 || b != 0 || text != "" || x != (api.Ticket{}) {
			t.Errorf("%v: something beside an error", s)
		}
		if _, e := site.Site(s, -1, 9); e != api.ErrArg {
			t.Errorf("%v: %v ahead of ErrArg", s, e)
		}
		for range site.Each(s) {
			t.Errorf("%v has sites", s)
		}
	}
}

// TestSites: P5.1, P5.4, sites, and what is out of range.
func TestSites(t *testing.T) {
	if n, e := site.Site(small, 2, 1); n != 5 || e != api.OK {
		t.Errorf("Site(2, 1) = %d %v", n, e)
	}
	if a, b, e := site.Of(small, 4); a != 2 || b != 0 || e != api.OK {
		t.Errorf("Of(4) = %d %d %v", a, b, e)
	}
	for _, s := range []api.Shape{small, greatest, {Nodes: 2, Locks: 1, Slots: 3}} {
		next := 0
		for node := range s.Nodes {
			for slot := range s.Slots {
				n, e := site.Site(s, node, slot)
				a, b, f := site.Of(s, n)
				if n != next || e != api.OK || a != node || b != slot || f != api.OK {
					t.Errorf("%v: %d.%d is %d %v, of that %d.%d %v", s, node, slot, n, e, a, b, f)
				}
				next++
			}
		}
		for _, n := range []int{-1, next, math.MaxInt, math.MinInt} {
			if a, b, e := site.Of(s, n); a != 0 || b != 0 || e != api.ErrRange {
				t.Errorf("Of(%d) = %d %d %v", n, a, b, e)
			}
		}
		for _, x := range [][2]int{{-1, 0}, {0, -1}, {s.Nodes, 0}, {0, s.Slots}, {math.MaxInt, math.MaxInt}} {
			if n, e := site.Site(s, x[0], x[1]); n != 0 || e != api.ErrRange {
				t.Errorf("Site(%v) = %d %v", x, n, e)
			}
		}
	}
}

// TestNames: P5.2, P5.4, names there and back.
func TestNames(t *testing.T) {
	for _, c := range []struct {
		t    api.Ticket
		name string
	}{
		{api.Ticket{Node: 2, Lock: 1, Slot: 0, Use: 7}, "2.1.0.7"}, {api.Ticket{Node: 0, Lock: 0, Slot: 1, Use: 1}, "0.0.1.1"},
		{api.Ticket{Node: 1, Lock: 0, Slot: 0, Use: api.MaxUse}, "1.0.0.1099511627776"},
	} {
		if e := site.Right(small, c.t); e != api.OK {
			t.Errorf("Right(%v) %v", c.t, e)
		}
		if s, e := site.Text(small, c.t); s != c.name || e != api.OK {
			t.Errorf("Text(%v) = %q %v", c.t, s, e)
		}
		if x, e := site.Parse(small, c.name); x != c.t || e != api.OK {
			t.Errorf("Parse(%q) = %v %v", c.name, x, e)
		}
	}
	for _, x := range []api.Ticket{{Use: 0}, {Use: -1}, {Use: api.MaxUse + 1}, {Node: 3, Use: 1}, {Node: -1, Use: 1}, {Lock: 2, Use: 1}, {Lock: -1, Use: 1}, {Slot: 2, Use: 1}, {Slot: -1, Use: 1}, {Use: math.MinInt64}} {
		if e := site.Right(small, x); e != api.ErrRange {
			t.Errorf("Right(%v) = %v", x, e)
		}
		if s, e := site.Text(small, x); s != "" || e != api.ErrRange {
			t.Errorf("Text(%v) = %q %v", x, s, e)
		}
	}
	for _, s := range []string{"", ".", "...", "2.1.0", "2.1.0.7.", "2.1.0.7.1", ".1.0.7", "2.1.0.07", "02.1.0.7", "2.1.00.7", "+2.1.0.7", "2.1.0.+7", "-0.1.0.7", "-1.1.0.7", "2.1.0.0", "2.1.0.-1", "3.0.0.1", "0.2.0.1", "0.0.2.1",
		"2.1.0.1099511627777", "2.1.0.99999999999999999999999", "2.1.0.7 ", " 2.1.0.7", "2.1.0.7\n", "2.1.0.0x7", "2.1.0.1_0", "a.b.c.d", "2,1,0,7", "\xff.1.0.7", "2.1.0.٧", strings.Repeat("9.", 1000)} {
		if x, e := site.Parse(small, s); x != (api.Ticket{}) || e != api.ErrTicket {
			t.Errorf("Parse(%q) = %v %v", s, x, e)
		}
	}
}

// TestOrder: P5.2, P5.4, by Lock, then Node, Slot, Use.
func TestOrder(t *testing.T) {
	var l []api.Ticket
	for lock := -1; lock < 2; lock++ {
		for node := range 2 {
			for slot := range 2 {
				for _, use := range []int64{math.MinInt64, 1, 2, math.MaxInt64} {
					l = append(l, api.Ticket{Node: node, Lock: lock, Slot: slot, Use: use})
				}
			}
		}
	}
	for i, a := range l {
		for j, b := range l {
			want := 0
			if i < j {
				want = -1
			} else if i > j {
				want = 1
			}
			if got := site.Order(a, b); got != want {
				t.Errorf("Order(%v, %v) = %d", a, b, got)
			}
		}
	}
}

// TestEach: P5.3, the sites of lock 0, each with its first ticket.
func TestEach(t *testing.T) {
	for _, s := range []api.Shape{small, greatest} {
		seq := site.Each(s)
		for range 2 {
			next := 0
			for n, x := range seq {
				if n != next || x != (api.Ticket{Node: n / s.Slots, Slot: n % s.Slots, Use: 1}) {
					t.Errorf("%d: %d %v", next, n, x)
				}
				next++
			}
			if next != s.Nodes*s.Slots {
				t.Errorf("%d sites", next)
			}
		}
		for n := range seq {
			if n == 1 {
				break
			}
		}
	}
}
