package timer_test

import (
	"math"
	"math/rand"
	"slices"
	"sort"
	"testing"

	"castellan/api"
	"castellan/timer"
)

// TestTick: P6.1, P6.2, what fires, in which order.
func TestTick(t *testing.T) {
	q := timer.New()
	for _, c := range []struct {
		n    int
		at   int64
		want api.Errno
	}{{7, 2, api.OK}, {3, 2, api.OK}, {5, 1, api.OK}, {7, 9, api.ErrArmed}, {7, -1, api.ErrArg}, {-1, 3, api.ErrArg}, {8, api.MaxTick + 1, api.ErrArg}, {8, math.MinInt64, api.ErrArg}, {math.MinInt, 0, api.ErrArg}, {math.MaxInt, api.MaxTick, api.OK}} {
		if e := q.Arm(c.n, c.at); e != c.want {
			t.Errorf("Arm(%d, %d) = %v", c.n, c.at, e)
		}
	}
	if at, ok := q.Due(7); at != 2 || !ok || q.Len() != 4 || q.Now() != 0 {
		t.Errorf("Due(7) = %d %v; Len %d, Now %d", at, ok, q.Len(), q.Now())
	}
	for i, want := range [][]int{{5}, {3, 7}, nil} {
		if l, e := q.Tick(); !slices.Equal(l, want) || e != api.OK || q.Now() != int64(i+1) {
			t.Errorf("tick %d: %v %v", i+1, l, e)
		}
	}
	for _, n := range []int{3, 5, 7, -1, math.MinInt} {
		if at, ok := q.Due(n); at != 0 || ok {
			t.Errorf("Due(%d) = %d %v", n, at, ok)
		}
	}
	if e := q.Arm(3, 1); e != api.OK {
		t.Errorf("armed again: %v", e)
	}
	if e := q.Arm(4, 0); e != api.OK {
		t.Errorf("due already: %v", e)
	}
	if q.Len() != 3 {
		t.Errorf("one that is due fired ahead of a tick")
	}
	if l, _ := q.Tick(); !slices.Equal(l, []int{4, 3}) {
		t.Errorf("due already: %v", l)
	}
}

// TestCancel: P6.1.
func TestCancel(t *testing.T) {
	q := timer.New()
	q.Arm(1, 1)
	for _, c := range []struct {
		n    int
		want api.Errno
	}{{-1, api.ErrArg}, {2, api.ErrNone}, {1, api.OK}, {1, api.ErrNone}} {
		if e := q.Cancel(c.n); e != c.want {
			t.Errorf("Cancel(%d) = %v", c.n, e)
		}
	}
	if l, _ := q.Tick(); len(l) != 0 || q.Len() != 0 {
		t.Errorf("a cancelled one fires: %v", l)
	}
}

// TestEnd: P6.1, P6.4, the clock stands still at its end.
func TestEnd(t *testing.T) {
	for _, at := range []int64{-1, api.MaxTick + 1, math.MaxInt64, math.MinInt64} {
		if q, e := timer.At(at); q != nil || e != api.ErrArg {
			t.Errorf("At(%d) = %v %v", at, q, e)
		}
	}
	q, e := timer.At(api.MaxTick - 1)
	if e != api.OK || q.Now() != api.MaxTick-1 {
		t.Fatalf("At: %v", e)
	}
	q.Arm(2, api.MaxTick)
	if l, _ := q.Tick(); !slices.Equal(l, []int{2}) || q.Now() != api.MaxTick {
		t.Errorf("at the end: %v, %d", l, q.Now())
	}
	q.Arm(3, api.MaxTick)
	q.Arm(1, api.MaxTick)
	if l, e := q.Tick(); !slices.Equal(l, []int{1, 3}) || e != api.OK || q.Now() != api.MaxTick {
		t.Errorf("it goes on behind its end: %v, %d", l, q.Now())
	}
	if e := q.Cancel(1); e != api.ErrNone {
		t.Errorf("Cancel: %v", e)
	}
}

// TestLong: P6.1, as many timers as may be.
func TestLong(t *testing.T) {
	q := timer.New()
	for n := range api.MaxTimers {
		if e := q.Arm(n*3, int64(n%7)); e != api.OK {
			t.Fatalf("Arm %d: %v", n, e)
		}
	}
	if e := q.Arm(1, 1); e != api.ErrLong {
		t.Errorf("one too many: %v", e)
	}
	if e := q.Arm(3, 1); e != api.ErrArmed {
		t.Errorf("one that is there: %v", e)
	}
	if e := q.Arm(-1, 1); e != api.ErrArg {
		t.Errorf("one that may not be: %v", e)
	}
	if q.Len() != api.MaxTimers {
		t.Errorf("Len %d", q.Len())
	}
	q.Cancel(0)
	if e := q.Arm(1, 1); e != api.OK {
		t.Errorf("one less: %v", e)
	}
}

// TestAll: P6.2, in the order of firing, left at any time, gone over again.
func TestAll(t *testing.T) {
	q := timer.New()
	for _, x := range [][2]int{{9, 5}, {2, 7}, {4, 5}, {1, 9}, {3, 0}} {
		q.Arm(x[0], int64(x[1]))
	}
	seq := q.All()
	for range 2 {
		var ns []int
		var at []int64
		for n, a := range seq {
			ns, at = append(ns, n), append(at, a)
		}
		if !slices.Equal(ns, []int{3, 4, 9, 2, 1}) || !slices.Equal(at, []int64{0, 5, 5, 7, 9}) {
			t.Errorf("All: %v %v", ns, at)
		}
	}
	for n := range seq {
		if n != 3 {
			t.Errorf("first: %d", n)
		}
		break
	}
	if q.Len() != 5 {
		t.Errorf("All took some away: %d", q.Len())
	}
}

// TestNil: of no queue, and of one that no call made.
func TestNil(t *testing.T) {
	for _, q := range []*timer.Queue{nil, {}} {
		l, e := q.Tick()
		if l != nil || e != api.ErrNil || q.Arm(-1, 1) != api.ErrNil || q.Cancel(-1) != api.ErrNil {
			t.Errorf("no queue does something: %v %v", l, e)
		}
		if at, ok := q.Due(1); q.Now() != 0 || at != 0 || ok || q.Len() != 0 || q.Copy() != nil {
			t.Error("no queue tells something")
		}
		for range q.All() {
			t.Error("no queue has timers")
		}
		if !timer.Same(q, nil) || !timer.Same(nil, q) || timer.Same(q, timer.New()) || timer.Same(timer.New(), q) {
			t.Error("a nil one is like a nil one alone")
		}
	}
}

// TestCopySame: P6.3.
func TestCopySame(t *testing.T) {
	q := timer.New()
	q.Arm(1, 2)
	c := q.Copy()
	if !timer.Same(q, c) {
		t.Error("a copy is another one")
	}
	c.Arm(2, 2)
	if timer.Same(q, c) || q.Len() != 1 {
		t.Error("a copy doesn't go on apart")
	}
	d := q.Copy()
	d.Tick()
	if timer.Same(q, d) || q.Now() != 0 {
		t.Error("another tick is the same")
	}
	f := timer.New()
	f.Arm(1, 3)
	if timer.Same(q, f) {
		t.Error("another due is the same")
	}
}

// TestLife: P6.4, whatever is armed and cancelled: each fires once, at the first tick that is not ahead of its due.
func TestLife(t *testing.T) {
	r := rand.New(rand.NewSource(4))
	for range 200 {
		q := timer.New()
		due := map[int]int64{}
		for range 100 {
			n := r.Intn(20)
			switch r.Intn(4) {
			case 0, 1:
				at := q.Now() + int64(r.Intn(9)) - 2
				if at < 0 {
					at = 0
				}
				_, there := due[n]
				if e := q.Arm(n, at); there != (e == api.ErrArmed) {
					t.Fatalf("Arm(%d) = %v", n, e)
				}
				if !there {
					due[n] = at
				}
			case 2:
				_, there := due[n]
				if e := q.Cancel(n); there != (e == api.OK) {
					t.Fatalf("Cancel(%d) = %v", n, e)
				}
				delete(due, n)
			case 3:
				var want []int
				for n, at := range due {
					if at <= q.Now()+1 {
						want = append(want, n)
					}
				}
				sort.Slice(want, func(i, j int) bool {
					return due[want[i]] < due[want[j]] || due[want[i]] == due[want[j]] && want[i] < want[j]
				})
				was := q.Now()
				if got, _ := q.Tick(); !slices.Equal(got, want) || q.Now() != was+1 {
					t.Fatalf("at %d: %v, not %v", q.Now(), got, want)
				}
				for _, n := range want {
					delete(due, n)
				}
			}
			if q.Len() != len(due) {
				t.Fatalf("Len %d", q.Len())
			}
		}
	}
}
