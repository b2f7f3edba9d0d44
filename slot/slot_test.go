package slot_test

import (
	"math"
	"math/rand"
	"slices"
	"testing"

	"castellan/api"
	"castellan/slot"
	"castellan/stat"
)

var (
	two  = api.Shape{Nodes: 1, Locks: 1, Slots: 2}
	four = api.Shape{Nodes: 1, Locks: 1, Slots: 4}
)

var five = api.Counter{Value: 5, Version: 3}

func pending(use int64, m api.Mode, prio int, due int64) api.Slot {
	return api.Slot{Use: use, State: api.StatePending, Mode: m, Prio: prio, Due: due}
}

func held(use int64, m api.Mode, prio int, c api.Counter) api.Slot {
	return api.Slot{Use: use, State: api.StateHeld, Mode: m, Prio: prio, Counter: c}
}

func ended(use int64, how api.State) api.Slot { return api.Slot{Use: use, State: how} }

// wrong are slots that may not be.
func wrong() []api.Slot {
	p, h, r := pending(1, api.ModeS, 1, 5), held(1, api.ModeS, 1, five), ended(1, api.StateReleased)
	l := []api.Slot{{Use: 1}, {State: 6, Use: 1}, {State: -1, Use: 1}, {Use: -1}, {Mode: 1}, {Due: 1}, {Counter: five}}
	for _, s := range []api.State{api.StatePending, api.StateHeld, api.StateReleased, api.StateCancelled, api.StateLate} {
		l = append(l, api.Slot{State: s})
	}
	for _, x := range []api.Slot{p, h} {
		for _, change := range []func(*api.Slot){func(x *api.Slot) { x.Use = 0 }, func(x *api.Slot) { x.Use = api.MaxUse + 1 }, func(x *api.Slot) { x.Mode = 0 }, func(x *api.Slot) { x.Mode = 6 }, func(x *api.Slot) { x.Prio = 4 }, func(x *api.Slot) { x.Prio = -1 }} {
			y := x
			change(&y)
			l = append(l, y)
		}
	}
	for _, change := range []func(x, y, z *api.Slot){
		func(x, y, z *api.Slot) { x.Due, y.Due, z.Due = -1, 1, 1 }, func(x, y, z *api.Slot) { x.Due, y.Counter.Floor, z.Mode = api.MaxTick+1, 9, 1 }, func(x, y, z *api.Slot) { x.Counter, y.Counter.Version, z.Counter = five, api.MaxVersion+1, five }, func(x, y, z *api.Slot) { x.State, y.State, z.Prio = api.StateLate, api.StateCancelled, 1 },
	} {
		x, y, z := p, h, r
		change(&x, &y, &z)
		l = append(l, x, y, z)
	}
	return l
}

// TestNewCheck: P21.1.
func TestNewCheck(t *testing.T) {
	if l, e := slot.New(four); !slices.Equal(l, make([]api.Slot, 4)) || e != api.OK || slot.Check(four, l) != api.OK {
		t.Errorf("New: %v %v", l, e)
	}
	for _, l := range [][]api.Slot{
		{pending(1, api.ModeIS, 0, 0), held(api.MaxUse, api.ModeX, 3, five), ended(api.MaxUse, api.StateLate), {}},
		{pending(api.MaxUse, api.ModeX, 3, api.MaxTick), held(1, api.ModeIS, 0, api.Counter{}), ended(1, api.StateReleased), ended(2, api.StateCancelled)},
	} {
		if e := slot.Check(four, l); e != api.OK {
			t.Errorf("%v: %v", l, e)
		}
	}
	type bad struct {
		s api.Shape
		l []api.Slot
	}
	l := []bad{{api.Shape{}, nil}, {api.Shape{Nodes: 65, Locks: 1, Slots: 2}, make([]api.Slot, 2)}, {two, nil}, {two, make([]api.Slot, 1)}, {two, make([]api.Slot, 3)}}
	for _, x := range wrong() {
		l = append(l, bad{two, []api.Slot{{}, x}})
	}
	for _, b := range l {
		a1, n, e1 := slot.Acquire(b.s, b.l, 1, 0, 0)
		a2, ok, e2 := slot.Grant(b.s, b.l, 9, 1, 1, five)
		a3, e3 := slot.Cancel(b.s, b.l, 9, 1)
		a4, e4 := slot.Release(b.s, b.l, 9, 1)
		st, e5 := slot.Poll(b.s, b.l, 9, 1)
		a6, which, e6 := slot.Late(b.s, b.l, 5)
		for i, e := range []api.Errno{slot.Check(b.s, b.l), e1, e2, e3, e4, e5, e6} {
			if e != api.ErrArg {
				t.Errorf("%d of %v: %v", i, b, e)
			}
		}
		if a1 != nil || a2 != nil || a3 != nil || a4 != nil || a6 != nil || n != 0 || ok || st != 0 || which != nil {
			t.Errorf("%v: something beside an error", b)
		}
	}
	if l, e := slot.New(api.Shape{}); l != nil || e != api.ErrArg {
		t.Errorf("New of no shape: %v", e)
	}
}

// TestAcquire: P21.1.
func TestAcquire(t *testing.T) {
	l, _ := slot.New(two)
	l, at, e := slot.Acquire(two, l, api.ModeS, 1, 5)
	if at != 0 || e != api.OK || !slices.Equal(l, []api.Slot{pending(1, api.ModeS, 1, 5), {}}) {
		t.Errorf("Acquire: %v %d %v", l, at, e)
	}
	was := l
	l, at, e = slot.Acquire(two, l, api.ModeX, 0, 0)
	if at != 1 || e != api.OK || l[1] != pending(1, api.ModeX, 0, 0) || was[1] != (api.Slot{}) {
		t.Errorf("Acquire: %v %d %v", l, at, e)
	}
	if x, at, e := slot.Acquire(two, l, api.ModeIS, 0, 0); x != nil || at != 0 || e != api.ErrSlots {
		t.Errorf("Acquire: %v", e)
	}
	for _, c := range []struct {
		m    api.Mode
		prio int
		due  int64
	}{{0, 0, 0}, {6, 0, 0}, {-1, 0, 0}, {1, -1, 0}, {1, 4, 0}, {1, 0, -1}, {1, 0, api.MaxTick + 1}, {1, 0, math.MinInt64}} {
		if x, at, e := slot.Acquire(two, l, c.m, c.prio, c.due); x != nil || at != 0 || e != api.ErrArg {
			t.Errorf("Acquire(%v): %v", c, e)
		}
	}
	worn := []api.Slot{ended(api.MaxUse, api.StateReleased), ended(api.MaxUse-1, api.StateLate)}
	x, at, e := slot.Acquire(two, worn, api.ModeX, 3, api.MaxTick)
	if at != 1 || e != api.OK || x[1] != pending(api.MaxUse, api.ModeX, 3, api.MaxTick) || x[0] != worn[0] {
		t.Errorf("Acquire: %v %d %v", x, at, e)
	}
	worn[1].Use++
	if _, _, e := slot.Acquire(two, worn, 1, 0, 0); e != api.ErrSlots {
		t.Errorf("all uses are over: %v", e)
	}
}

// TestGrant: P21.2.
func TestGrant(t *testing.T) {
	l := []api.Slot{pending(3, api.ModeS, 2, 9), held(2, api.ModeS, 0, api.Counter{})}
	was := slices.Clone(l)
	got, ok, e := slot.Grant(two, l, 0, 3, api.ModeS, five)
	if !ok || e != api.OK || !slices.Equal(got, []api.Slot{held(3, api.ModeS, 2, five), was[1]}) || !slices.Equal(l, was) {
		t.Errorf("Grant: %v %v %v", got, ok, e)
	}
	for _, c := range []struct {
		at  int
		use int64
		m   api.Mode
	}{{0, 2, api.ModeS}, {0, 4, api.ModeS}, {0, -3, api.ModeS}, {0, math.MaxInt64, api.ModeS}, {0, 3, api.ModeX}, {1, 2, api.ModeS}} {
		if got, ok, e := slot.Grant(two, l, c.at, c.use, c.m, five); ok || e != api.OK || !slices.Equal(got, was) {
			t.Errorf("Grant(%v): %v %v %v", c, got, ok, e)
		}
	}
	for _, m := range []api.Mode{-1, 0, 6} {
		if got, ok, e := slot.Grant(two, l, 9, 3, m, five); ok || e != api.ErrArg || got != nil {
			t.Errorf("Grant in %d: %v", m, e)
		}
	}
	if got, ok, e := slot.Grant(two, l, 9, 3, 1, api.Counter{Floor: 1}); ok || e != api.ErrArg || got != nil {
		t.Errorf("Grant with no counter: %v", e)
	}
	for _, at := range []int{-1, 2, math.MaxInt} {
		if got, ok, e := slot.Grant(two, l, at, 3, api.ModeS, five); ok || e != api.ErrRange || got != nil {
			t.Errorf("Grant at %d: %v", at, e)
		}
	}
}

// TestEnds: P21.2, the errors in their order.
func TestEnds(t *testing.T) {
	l := []api.Slot{pending(3, api.ModeS, 2, 9), held(2, api.ModeX, 1, five), ended(7, api.StateLate), {}}
	was := slices.Clone(l)
	for _, c := range []struct {
		at              int
		use             int64
		cancel, release api.Errno
		state           api.State
		poll            api.Errno
	}{
		{0, 3, api.OK, api.ErrPending, api.StatePending, api.OK}, {1, 2, api.ErrHolds, api.OK, api.StateHeld, api.OK}, {2, 7, api.ErrEnded, api.ErrEnded, api.StateLate, api.OK},
		{3, 0, api.ErrNone, api.ErrNone, 0, api.ErrNone}, {0, 2, api.ErrNone, api.ErrNone, 0, api.ErrNone}, {1, 3, api.ErrNone, api.ErrNone, 0, api.ErrNone}, {0, -1, api.ErrNone, api.ErrNone, 0, api.ErrNone},
		{4, 3, api.ErrRange, api.ErrRange, 0, api.ErrRange}, {-1, 3, api.ErrRange, api.ErrRange, 0, api.ErrRange}, {math.MinInt, 0, api.ErrRange, api.ErrRange, 0, api.ErrRange},
	} {
		a, e1 := slot.Cancel(four, l, c.at, c.use)
		b, e2 := slot.Release(four, l, c.at, c.use)
		s, e3 := slot.Poll(four, l, c.at, c.use)
		if e1 != c.cancel || e2 != c.release || s != c.state || e3 != c.poll {
			t.Errorf("%d, %d: %v %v %v %v", c.at, c.use, e1, e2, s, e3)
		}
		if e1 == api.OK && (a[c.at] != ended(c.use, api.StateCancelled) || a[1] != was[1]) || e1 != api.OK && a != nil {
			t.Errorf("Cancel: %v", a)
		}
		if e2 == api.OK && (b[c.at] != ended(c.use, api.StateReleased) || b[0] != was[0]) || e2 != api.OK && b != nil {
			t.Errorf("Release: %v", b)
		}
	}
	if !slices.Equal(l, was) {
		t.Error("what was handed in is changed")
	}
}

// TestLate: P21.3, by Due, then by their numbers.
func TestLate(t *testing.T) {
	l := []api.Slot{pending(3, api.ModeS, 2, 9), pending(1, api.ModeX, 0, 0), pending(5, api.ModeX, 0, 4), pending(2, api.ModeX, 0, 9)}
	for _, c := range []struct {
		now   int64
		which []int
	}{{0, nil}, {3, nil}, {4, []int{2}}, {8, []int{2}}, {9, []int{2, 0, 3}}, {api.MaxTick, []int{2, 0, 3}}} {
		got, which, e := slot.Late(four, l, c.now)
		want := slices.Clone(l)
		for _, at := range c.which {
			want[at] = ended(l[at].Use, api.StateLate)
		}
		if !slices.Equal(got, want) || !slices.Equal(which, c.which) || e != api.OK {
			t.Errorf("Late(%d): %v %v %v", c.now, got, which, e)
		}
	}
	for _, now := range []int64{-1, api.MaxTick + 1, math.MinInt64} {
		if got, which, e := slot.Late(four, l, now); got != nil || which != nil || e != api.ErrArg {
			t.Errorf("Late(%d): %v", now, e)
		}
	}
	if got, which, _ := slot.Late(two, []api.Slot{held(1, 5, 0, five), pending(1, 1, 0, 1)}, 1); len(which) != 1 || got[0] != held(1, 5, 0, five) {
		t.Errorf("held ones: %v", which)
	}
	if _, which, _ := slot.Late(two, []api.Slot{pending(1, 1, 0, 1), {}}, 0); len(which) != 0 {
		t.Errorf("ahead of its due: %v", which)
	}
}

// TestStats: P21.3, of slots that may not be, too, if no Use is below 0.
func TestStats(t *testing.T) {
	l := []api.Slot{pending(3, api.ModeS, 2, 9), held(2, api.ModeX, 1, five), ended(7, api.StateLate), {}, {Use: 4, State: 99, Mode: 9}, {State: api.StateHeld, Mode: 77, Prio: 8}}
	want := []api.Stat{{Over: 2, Pending: true, Mode: api.ModeS, Prio: 2}, {Over: 1, Pending: true, Mode: api.ModeX, Prio: 1}, {Over: 7}, {}, {Over: 4}, {Over: -1, Pending: true, Mode: 77, Prio: 8}}
	seq := slot.Stats(l)
	for range 2 {
		next := 0
		for at, x := range seq {
			if at != next || x != want[at] {
				t.Errorf("%d: %v", at, x)
			}
			next++
		}
		if next != len(want) {
			t.Errorf("%d statuses", next)
		}
	}
	for at := range seq {
		if at != 0 {
			t.Errorf("first: %d", at)
		}
		break
	}
	for range slot.Stats([]api.Slot{{}, {Use: -1}}) {
		t.Error("a Use below 0")
	}
}

// TestLife: P21.4, each ticket ends once, and statuses never say less.
func TestLife(t *testing.T) {
	r := rand.New(rand.NewSource(19))
	for range 200 {
		l, _ := slot.New(two)
		last := make([]api.Stat, 2)
		ends := map[[2]int64]bool{}
		for now := range int64(80) {
			at, use := r.Intn(2), int64(1+r.Intn(20))
			if r.Intn(2) == 0 {
				use = l[at].Use
			}
			was := l
			switch r.Intn(5) {
			case 0:
				if x, _, e := slot.Acquire(two, l, api.Mode(1+r.Intn(5)), r.Intn(4), now+int64(r.Intn(9))); e == api.OK {
					l = x
				}
			case 1:
				l, _, _ = slot.Grant(two, l, at, use, api.Mode(1+r.Intn(5)), five)
			case 2:
				if x, e := slot.Cancel(two, l, at, use); e == api.OK {
					l = x
				}
			case 3:
				if x, e := slot.Release(two, l, at, use); e == api.OK {
					l = x
				}
			case 4:
				l, _, _ = slot.Late(two, l, now)
			}
			for i, x := range l {
				if x.State >= api.StateReleased && was[i] != x {
					key := [2]int64{int64(i), x.Use}
					if ends[key] || x.Use != was[i].Use || (x.State == api.StateReleased) != (was[i].State == api.StateHeld) {
						t.Fatalf("%v ends as %v", was[i], x)
					}
					ends[key] = true
				}
			}
			for i, x := range slot.Stats(l) {
				if stat.More(last[i], x) || stat.Check(x) != api.OK {
					t.Fatalf("%v says less than %v", x, last[i])
				}
				last[i] = x
			}
			if slot.Check(two, l) != api.OK {
				t.Fatalf("no slots: %v", l)
			}
		}
	}
}
