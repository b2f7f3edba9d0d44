package stat_test

import (
	"math"
	"math/rand"
	"slices"
	"testing"

	"castellan/api"
	"castellan/stat"
)

var (
	two   = api.Shape{Nodes: 2, Locks: 1, Slots: 1}
	great = api.Shape{Nodes: 64, Locks: 8, Slots: 4}
)

func over(n int64) api.Stat { return api.Stat{Over: n} }

func wants(n int64, m api.Mode, prio int) api.Stat {
	return api.Stat{Over: n, Pending: true, Mode: m, Prio: prio}
}

// wrong are statuses that may not be.
func wrong() []api.Stat {
	return []api.Stat{over(-1), over(api.MaxUse + 1), over(math.MinInt64), {Over: 2, Mode: api.ModeS}, {Over: 2, Prio: 1}, {Mode: -1}, wants(2, 0, 0), wants(2, 6, 0), wants(2, -1, 0), wants(2, 1, 4), wants(2, 1, -1), wants(-1, 1, 0), wants(api.MaxUse, 1, 0)}
}

// TestCheck: P14.1.
func TestCheck(t *testing.T) {
	for _, s := range []api.Stat{{}, over(api.MaxUse), wants(0, api.ModeIS, 0), wants(api.MaxUse-1, api.ModeX, 3)} {
		if e := stat.Check(s); e != api.OK {
			t.Errorf("%v: %v", s, e)
		}
	}
	for _, s := range wrong() {
		if e := stat.Check(s); e != api.ErrArg {
			t.Errorf("%v: %v", s, e)
		}
	}
}

// TestNewMore: P14.1.
func TestNewMore(t *testing.T) {
	for _, s := range []api.Shape{two, great} {
		if l, e := stat.New(s); !slices.Equal(l, make([]api.Stat, s.Nodes*s.Slots)) || e != api.OK {
			t.Errorf("New(%v): %v %v", s, l, e)
		}
	}
	for _, s := range []api.Shape{{}, {Nodes: 65, Locks: 1, Slots: 1}, {Nodes: -1, Locks: 1, Slots: 1}} {
		l, e1 := stat.New(s)
		a, ok, e2 := stat.Learn(s, nil, 0, api.Stat{})
		b, e3 := stat.Join(s)
		if l != nil || a != nil || b != nil || ok || e1 != api.ErrArg || e2 != api.ErrArg || e3 != api.ErrArg {
			t.Errorf("%v: %v %v %v", s, e1, e2, e3)
		}
	}
	rank := []api.Stat{over(math.MinInt64), over(0), wants(0, 1, 0), over(2), wants(2, 3, 1), over(3), over(math.MaxInt64)}
	for i, a := range rank {
		for j, b := range rank {
			if stat.More(a, b) != (i > j) {
				t.Errorf("More(%v, %v)", a, b)
			}
		}
	}
	if stat.More(wants(2, 5, 3), wants(2, 1, 0)) {
		t.Error("another mode says more")
	}
}

// TestLearn: P14.2.
func TestLearn(t *testing.T) {
	l := []api.Stat{over(2), wants(3, api.ModeS, 0)}
	was := slices.Clone(l)
	for _, c := range []struct {
		at   int
		x    api.Stat
		more bool
	}{{0, over(3), true}, {0, wants(2, 1, 0), true}, {0, over(2), false}, {0, over(1), false}, {0, wants(1, 1, 0), false}, {1, wants(3, 5, 3), false}, {1, over(3), false}, {1, over(4), true}} {
		got, more, e := stat.Learn(two, l, c.at, c.x)
		want := slices.Clone(was)
		if c.more {
			want[c.at] = c.x
		}
		if !slices.Equal(got, want) || more != c.more || e != api.OK || !slices.Equal(l, was) {
			t.Errorf("Learn(%d, %v) = %v %v %v", c.at, c.x, got, more, e)
		}
		got[0].Over = 77
		if l[0].Over == 77 {
			t.Error("the answer is no new memory")
		}
	}
	for _, at := range []int{-1, 2, 9, math.MaxInt} {
		if got, more, e := stat.Learn(two, l, at, over(9)); got != nil || more || e != api.ErrRange {
			t.Errorf("site %d: %v", at, e)
		}
	}
	for _, x := range wrong() {
		a, _, e1 := stat.Learn(two, l, 9, x)
		b, _, e2 := stat.Learn(two, []api.Stat{over(1), x}, 9, over(1))
		c, e3 := stat.Join(two, l, []api.Stat{x, over(1)})
		if a != nil || b != nil || c != nil || e1 != api.ErrArg || e2 != api.ErrArg || e3 != api.ErrArg {
			t.Errorf("%v: %v %v %v", x, e1, e2, e3)
		}
	}
	for _, bad := range [][]api.Stat{nil, l[:1], append(slices.Clone(l), over(1))} {
		_, _, e1 := stat.Learn(two, bad, 0, over(1))
		_, e2 := stat.Join(two, bad)
		_, e3 := stat.Join(two, l, bad)
		if e1 != api.ErrArg || e2 != api.ErrArg || e3 != api.ErrArg {
			t.Errorf("%v: %v %v %v", bad, e1, e2, e3)
		}
	}
}

// TestJoin: P14.2, of each site the first one among those that no other one says more than.
func TestJoin(t *testing.T) {
	if l, e := stat.Join(two); !slices.Equal(l, make([]api.Stat, 2)) || e != api.OK {
		t.Errorf("of no lists: %v %v", l, e)
	}
	a := []api.Stat{over(2), wants(3, api.ModeS, 0)}
	b := []api.Stat{wants(2, api.ModeX, 1), wants(3, api.ModeX, 3)}
	c := []api.Stat{wants(2, api.ModeIS, 2), over(1)}
	got, e := stat.Join(two, a, b, c)
	if !slices.Equal(got, []api.Stat{wants(2, api.ModeX, 1), wants(3, api.ModeS, 0)}) || e != api.OK {
		t.Errorf("Join: %v %v", got, e)
	}
	one, _ := stat.Join(two, a)
	one[0].Over = 77
	if a[0] != over(2) {
		t.Error("the answer is no new memory")
	}
}

// TestPending: P14.3.
func TestPending(t *testing.T) {
	l := []api.Stat{over(2), wants(3, api.ModeS, 0), over(1), wants(0, api.ModeX, 3)}
	seq := stat.Pending(l)
	for range 2 {
		var at []int
		var got []api.Stat
		for i, s := range seq {
			at, got = append(at, i), append(got, s)
		}
		if !slices.Equal(at, []int{1, 3}) || !slices.Equal(got, []api.Stat{l[1], l[3]}) {
			t.Errorf("Pending: %v %v", at, got)
		}
	}
	for i := range seq {
		if i != 1 {
			t.Errorf("first: %d", i)
		}
		break
	}
	for range stat.Pending(nil) {
		t.Error("of nothing one is pending")
	}
}

// TestAnyOrder: P14.4, in whatever order, and how often.
func TestAnyOrder(t *testing.T) {
	r := rand.New(rand.NewSource(12))
	for range 200 {
		var facts [][2]any
		for at := range 2 {
			for n := range int64(4) {
				facts = append(facts, [2]any{at, over(n)}, [2]any{at, wants(n, api.Mode(1+r.Intn(5)), r.Intn(4))})
			}
		}
		facts = facts[:1+r.Intn(len(facts))]
		learn := func() []api.Stat {
			l, _ := stat.New(two)
			for _, i := range append(r.Perm(len(facts)), r.Perm(len(facts))...) {
				l, _, _ = stat.Learn(two, l, facts[i][0].(int), facts[i][1].(api.Stat))
			}
			return l
		}
		a, b := learn(), learn()
		if !slices.Equal(a, b) {
			t.Fatalf("%v, %v", a, b)
		}
	}
}
