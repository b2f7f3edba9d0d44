package wait_test

import (
	"math"
	"math/rand"
	"slices"
	"testing"

	"castellan/api"
	"castellan/mode"
	"castellan/wait"
)

// w is one that waits, of Use 1.
func w(site int, m api.Mode, prio, age int) api.Waiting {
	return api.Waiting{Site: site, Use: 1, Mode: m, Prio: prio, Age: age}
}

// wrong are some that may not wait.
func wrong() []api.Waiting {
	ok := w(1, api.ModeS, 0, 0)
	var l []api.Waiting
	for _, change := range []func(*api.Waiting){
		func(x *api.Waiting) { x.Site = -1 }, func(x *api.Waiting) { x.Site = 256 }, func(x *api.Waiting) { x.Site = math.MaxInt },
		func(x *api.Waiting) { x.Use = 0 }, func(x *api.Waiting) { x.Use = api.MaxUse + 1 }, func(x *api.Waiting) { x.Use = math.MinInt64 },
		func(x *api.Waiting) { x.Mode = 0 }, func(x *api.Waiting) { x.Mode = 6 }, func(x *api.Waiting) { x.Mode = -1 },
		func(x *api.Waiting) { x.Prio = -1 }, func(x *api.Waiting) { x.Prio = 4 }, func(x *api.Waiting) { x.Age = -1 }, func(x *api.Waiting) { x.Age = 65 },
	} {
		x := ok
		change(&x)
		l = append(l, x)
	}
	return l
}

// TestCheck: P12.1, what is no queue; of that all is refused.
func TestCheck(t *testing.T) {
	edge := []api.Waiting{{Site: 0, Use: 1, Mode: api.ModeIS}, {Site: 255, Use: api.MaxUse, Mode: api.ModeX, Prio: 3, Age: 64}}
	var many []api.Waiting
	for i := range api.MaxSites {
		many = append(many, w(i, api.ModeX, 0, 0))
	}
	for _, q := range [][]api.Waiting{nil, {}, edge, many} {
		if e := wait.Check(q); e != api.OK {
			t.Errorf("%v: %v", q, e)
		}
	}
	bad := [][]api.Waiting{{w(1, 1, 0, 0), w(2, 1, 0, 0), w(1, 2, 0, 0)}, append(slices.Clone(many), w(0, 1, 0, 0))}
	for _, x := range wrong() {
		bad = append(bad, []api.Waiting{x}, []api.Waiting{w(2, 1, 0, 0), x})
		if q, e := wait.Add(nil, x); q != nil || e != api.ErrArg {
			t.Errorf("Add(%v): %v", x, e)
		}
	}
	for _, q := range bad {
		a, e1 := wait.Add(q, w(9, 1, 0, 0))
		b, e2 := wait.Drop(q, q[0].Site)
		c, x, e3 := wait.Grant(q, 0)
		if wait.Check(q) != api.ErrArg || e1 != api.ErrArg || e2 != api.ErrArg || e3 != api.ErrArg || a != nil || b != nil || c != nil || x != (api.Waiting{}) {
			t.Errorf("%v: %v %v %v", q, e1, e2, e3)
		}
		if at, ok := wait.Find(q, q[0].Site); at != 0 || ok {
			t.Errorf("Find in %v", q)
		}
		if at, ok := wait.Next(q, 1); at != 0 || ok {
			t.Errorf("Next of %v", q)
		}
		for range wait.Order(q, 1) {
			t.Errorf("Order of %v", q)
		}
	}
}

// TestAddDropFind: P12.1.
func TestAddDropFind(t *testing.T) {
	q := make([]api.Waiting, 0, 9)
	q = append(q, w(5, api.ModeS, 1, 0), w(2, api.ModeX, 0, 3))
	room := q[:3]
	room[2] = w(77, 1, 0, 0)
	added, e := wait.Add(q, w(9, api.ModeIS, 2, 7))
	if e != api.OK || !slices.Equal(added, []api.Waiting{q[0], q[1], w(9, api.ModeIS, 2, 7)}) {
		t.Errorf("Add: %v %v", added, e)
	}
	if room[2].Site != 77 {
		t.Error("Add writes into the room behind the queue")
	}
	if l, e := wait.Add(q, w(2, api.ModeIS, 0, 0)); l != nil || e != api.ErrWaits {
		t.Errorf("Add a Site that waits: %v", e)
	}
	for i, x := range added {
		if at, ok := wait.Find(added, x.Site); at != i || !ok {
			t.Errorf("Find(%d) = %d %v", x.Site, at, ok)
		}
		l, e := wait.Drop(added, x.Site)
		if want := slices.Delete(slices.Clone(added), i, i+1); !slices.Equal(l, want) || e != api.OK {
			t.Errorf("Drop(%d) = %v %v", x.Site, l, e)
		}
	}
	for _, site := range []int{0, -1, 256, math.MaxInt} {
		if at, ok := wait.Find(added, site); at != 0 || ok {
			t.Errorf("Find(%d)", site)
		}
		if l, e := wait.Drop(added, site); l != nil || e != api.ErrNone {
			t.Errorf("Drop(%d): %v", site, e)
		}
	}
}

// TestExample: P12.2, P12.3.
func TestExample(t *testing.T) {
	q := []api.Waiting{w(1, api.ModeX, 0, 0), w(2, api.ModeS, 0, 0), w(3, api.ModeS, 1, 0)}
	if at, ok := wait.Next(q, 1); at != 2 || !ok {
		t.Errorf("Next = %d %v", at, ok)
	}
	if at, ok := wait.Next(q, 1, api.ModeS); at != 2 || !ok {
		t.Errorf("Next beside s = %d %v", at, ok)
	}
	was := slices.Clone(q)
	l, x, e := wait.Grant(q, 2)
	if !slices.Equal(l, []api.Waiting{w(1, api.ModeX, 0, 1), w(2, api.ModeS, 0, 0)}) || x != q[2] || e != api.OK || !slices.Equal(q, was) {
		t.Errorf("Grant = %v %v %v", l, x, e)
	}
	if at, ok := wait.Next(l, 1, api.ModeS, api.ModeS); at != 0 || ok {
		t.Errorf("Next beside s, s = %d %v", at, ok)
	}
	if at, ok := wait.Next(l, 1); at != 0 || !ok {
		t.Errorf("Next = %d %v", at, ok)
	}
	for _, at := range []int{-1, 3, 9, math.MaxInt, math.MinInt} {
		if l, x, e := wait.Grant(q, at); l != nil || x != (api.Waiting{}) || e != api.ErrRange {
			t.Errorf("Grant(%d): %v", at, e)
		}
	}
}

// TestNextWrong: P12.2, a cap, a mode that may not be.
func TestNextWrong(t *testing.T) {
	q := []api.Waiting{w(1, api.ModeX, 0, 0)}
	for _, limit := range []int{-1, 65, math.MaxInt} {
		if at, ok := wait.Next(q, limit); at != 0 || ok {
			t.Errorf("cap %d", limit)
		}
		for range wait.Order(q, limit) {
			t.Errorf("cap %d", limit)
		}
	}
	for _, m := range []api.Mode{-1, 6, math.MaxInt} {
		if at, ok := wait.Next(q, 1, api.ModeNone, m); at != 0 || ok {
			t.Errorf("mode %d", m)
		}
	}
	if _, ok := wait.Next(q, 64, api.ModeNone, api.ModeNone); !ok {
		t.Error("beside none nobody is next")
	}
	if _, ok := wait.Next(nil, 1); ok {
		t.Error("of nobody one is next")
	}
}

// TestAged: P12.2, who is aged is asked first, as they came, and stands against those behind it.
func TestAged(t *testing.T) {
	q := []api.Waiting{w(1, api.ModeS, 0, 0), w(2, api.ModeIX, 0, 3), w(3, api.ModeIS, 3, 0), w(4, api.ModeIX, 1, 5), w(5, api.ModeX, 2, 0), w(6, api.ModeS, 3, 2)}
	var order []int
	for at, x := range wait.Order(q, 3) {
		if q[at] != x {
			t.Errorf("place %d: %v", at, x)
		}
		order = append(order, at)
	}
	if !slices.Equal(order, []int{1, 3, 2, 5, 4, 0}) {
		t.Errorf("order: %v", order)
	}
	for at := range wait.Order(q, 3) {
		if at != 1 {
			t.Errorf("first: %d", at)
		}
		break
	}
	for _, c := range []struct {
		held []api.Mode
		at   int
		ok   bool
	}{{nil, 1, true}, {[]api.Mode{api.ModeS}, 2, true}, {[]api.Mode{api.ModeSIX}, 2, true}, {[]api.Mode{api.ModeX}, 0, false}, {[]api.Mode{api.ModeIS, api.ModeIX}, 1, true}} {
		if at, ok := wait.Next(q, 3, c.held...); at != c.at || ok != c.ok {
			t.Errorf("beside %v: %d %v", c.held, at, ok)
		}
	}
	// The one that came ahead of all that are aged is not barred by them.
	if at, ok := wait.Next([]api.Waiting{w(1, api.ModeS, 0, 0), w(2, api.ModeIX, 0, 3)}, 3, api.ModeS); at != 0 || !ok {
		t.Errorf("ahead of the aged: %d %v", at, ok)
	}
	if at, ok := wait.Next([]api.Waiting{w(2, api.ModeIX, 0, 3), w(1, api.ModeS, 0, 0)}, 3, api.ModeS); at != 0 || ok {
		t.Errorf("behind the aged: %d %v", at, ok)
	}
	if at, ok := wait.Next([]api.Waiting{w(1, api.ModeS, 0, 0), w(2, api.ModeX, 3, 0)}, 0); at != 0 || !ok {
		t.Errorf("by the cap 0 all are aged: %d %v", at, ok)
	}
}

// TestGrant: P12.3, who gets older.
func TestGrant(t *testing.T) {
	q := []api.Waiting{w(1, api.ModeX, 0, 64), w(2, api.ModeIX, 0, 0), w(3, api.ModeIS, 0, 0), w(4, api.ModeS, 0, 9), w(5, api.ModeX, 0, 0)}
	l, _, _ := wait.Grant(q, 3)
	if !slices.Equal(l, []api.Waiting{w(1, api.ModeX, 0, 64), w(2, api.ModeIX, 0, 1), w(3, api.ModeIS, 0, 0), w(5, api.ModeX, 0, 0)}) {
		t.Errorf("Grant: %v", l)
	}
	l, x, _ := wait.Grant(q, 0)
	if !slices.Equal(l, q[1:]) || x != q[0] {
		t.Errorf("Grant of the first one: %v", l)
	}
}

// apart tells whether two modes do not go together.
func apart(a, b api.Mode) bool {
	ok, _ := mode.Fits(a, b)
	return !ok
}

// TestServed: P12.4, P12.5, of those behind one, and against it, at most so many go ahead as the cap says.
func TestServed(t *testing.T) {
	r := rand.New(rand.NewSource(10))
	type seen struct {
		mode   api.Mode
		number int
		ahead  int
		most   int
	}
	for range 150 {
		limit := r.Intn(5)
		var q []api.Waiting
		var held []api.Mode
		by := map[int]*seen{}
		for number := range 120 {
			if r.Intn(3) > 0 {
				x := w(r.Intn(12), api.Mode(1+r.Intn(5)), r.Intn(4), r.Intn(2)*r.Intn(7))
				if l, e := wait.Add(q, x); e == api.OK {
					q = l
					by[x.Site] = &seen{x.Mode, number, 0, max(limit-x.Age, 0)}
				}
			}
			if r.Intn(6) == 0 && len(q) > 0 {
				site := q[r.Intn(len(q))].Site
				q, _ = wait.Drop(q, site)
				delete(by, site)
			}
			if len(held) > 0 && r.Intn(2) == 0 {
				at := r.Intn(len(held))
				held = slices.Delete(held, at, at+1)
			}
			at, ok := wait.Next(q, limit, held...)
			if !ok && len(held) == 0 && len(q) > 0 {
				t.Fatalf("nothing is held, and nobody is next: %v", q)
			}
			if !ok {
				continue
			}
			rest, x, _ := wait.Grant(q, at)
			if together, _ := mode.Together(append(slices.Clone(held), x.Mode)...); !together {
				t.Fatalf("%v goes not together with %v", x, held)
			}
			q, held = rest, append(held, x.Mode)
			me := by[x.Site]
			delete(by, x.Site)
			for site, s := range by {
				if s.number < me.number && apart(s.mode, x.Mode) {
					s.ahead++
				}
				if s.ahead > s.most {
					t.Fatalf("cap %d: %d went ahead of site %d", limit, s.ahead, site)
				}
			}
		}
	}
}
