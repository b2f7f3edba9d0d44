package report_test

import (
	"math"
	"math/rand"
	"slices"
	"testing"

	"castellan/api"
	"castellan/report"
)

var (
	three = api.Shape{Nodes: 3, Locks: 1, Slots: 1}
	wide  = api.Shape{Nodes: 2, Locks: 3, Slots: 1}
)

func not(hop int64) api.Report { return api.Report{Hop: hop} }

func has(hop int64) api.Report { return api.Report{Has: true, Hop: hop} }

func list(l ...api.Report) []api.Report { return l }

func tally(l ...[]api.Report) api.Tally { return api.Tally{Reports: l} }

// same tells whether two tallies are.
func same(a, b api.Tally) bool {
	return slices.EqualFunc(a.Reports, b.Reports, func(x, y []api.Report) bool { return slices.Equal(x, y) })
}

// missing tells the nodes that are.
func missing(s api.Shape, t api.Tally) []int { return slices.Collect(report.Missing(s, t)) }

// TestCheckNew: P18.1.
func TestCheckNew(t *testing.T) {
	for _, r := range [][]api.Report{list(not(0), has(0), has(api.MaxHop)), list(has(1), has(1), has(1))} {
		if e := report.Check(wide, r); e != api.OK {
			t.Errorf("%v: %v", r, e)
		}
	}
	for _, r := range [][]api.Report{nil, list(not(0), not(0)), list(not(0), not(0), not(0), not(0)), list(not(0), not(-1), not(0)), list(not(0), not(0), has(api.MaxHop+1)), list(not(math.MinInt64), not(0), not(0))} {
		if e := report.Check(wide, r); e != api.ErrArg {
			t.Errorf("%v: %v", r, e)
		}
	}
	x, e := report.New(three)
	if !same(x, tally(nil, nil, nil)) || e != api.OK || !slices.Equal(missing(three, x), []int{0, 1, 2}) {
		t.Errorf("New: %v %v", x, e)
	}
	for _, s := range []api.Shape{{}, {Nodes: 3}, {Nodes: 65, Locks: 1, Slots: 1}} {
		x, e1 := report.New(s)
		y, whole, e2 := report.Add(s, tally(nil, nil, nil), 0, list(not(0)))
		l, e3 := report.Decide(s, tally())
		if report.Check(s, nil) != api.ErrArg || e1 != api.ErrArg || e2 != api.ErrArg || e3 != api.ErrArg || !same(x, tally()) || !same(y, tally()) || whole || l != nil || missing(s, tally()) != nil {
			t.Errorf("%v: %v %v %v", s, e1, e2, e3)
		}
	}
}

// TestAdd: P18.1, P18.2.
func TestAdd(t *testing.T) {
	x, _ := report.New(three)
	for i, from := range []int{2, 0, 1} {
		r := list(not(int64(from)))
		next, whole, e := report.Add(three, x, from, r)
		r[0].Hop = 99
		if whole != (i == 2) || e != api.OK || len(x.Reports[from]) != 0 {
			t.Errorf("Add %d: %v %v", from, whole, e)
		}
		x = next
		if got, want := missing(three, x), [][]int{{0, 1}, {1}, nil}[i]; !slices.Equal(got, want) {
			t.Errorf("missing: %v", got)
		}
	}
	if !same(x, tally(list(not(0)), list(not(1)), list(not(2)))) {
		t.Errorf("whole: %v", x)
	}
	if y, whole, e := report.Add(three, x, 1, list(not(0))); e != api.ErrTold || whole || !same(y, tally()) {
		t.Errorf("again: %v", e)
	}
	for _, from := range []int{-1, 3, math.MaxInt} {
		if y, whole, e := report.Add(three, x, from, list(not(0))); e != api.ErrRange || whole || !same(y, tally()) {
			t.Errorf("from %d: %v", from, e)
		}
		if _, _, e := report.Add(three, x, from, list(not(-1))); e != api.ErrArg {
			t.Errorf("ErrArg first: %v", e)
		}
	}
	for range report.Missing(three, tally(nil, nil, nil)) {
		break
	}
}

// TestWrongTally: P18.1, P18.2, tallies that may not be.
func TestWrongTally(t *testing.T) {
	for _, x := range []api.Tally{{}, tally(nil, nil), tally(nil, nil, nil, nil), tally(list(not(0), not(0)), nil, nil), tally(nil, list(not(-1)), nil), tally(nil, nil, list(has(api.MaxHop+1)))} {
		_, _, e1 := report.Add(three, x, 9, list(not(0)))
		l, e2 := report.Decide(three, x)
		if e1 != api.ErrArg || e2 != api.ErrArg || l != nil || missing(three, x) != nil {
			t.Errorf("%v: %v %v", x, e1, e2)
		}
	}
}

// TestDecide: P18.2.
func TestDecide(t *testing.T) {
	for _, c := range []struct {
		s    api.Shape
		x    api.Tally
		want []api.Back
		e    api.Errno
	}{
		{three, tally(list(not(4)), list(not(5)), list(not(3))), []api.Back{{Lock: 0, Node: 1, Hop: 5}}, api.OK},
		{three, tally(list(not(4)), list(not(5)), list(has(6))), nil, api.OK},
		{three, tally(list(has(1)), list(not(5)), list(not(6))), nil, api.OK},
		{three, tally(list(not(5)), list(not(5)), list(not(5))), []api.Back{{Lock: 0, Node: 0, Hop: 5}}, api.OK},
		{three, tally(list(not(0)), list(not(0)), list(not(0))), []api.Back{{Lock: 0, Node: 0, Hop: 0}}, api.OK},
		{three, tally(list(has(4)), nil, list(has(3))), nil, api.ErrFew},
		{three, tally(list(has(4)), list(not(9)), list(has(3))), nil, api.ErrTwo},
		{wide, tally(list(not(1), has(5), not(7)), list(not(2), not(9), not(3))), []api.Back{{Lock: 0, Node: 1, Hop: 2}, {Lock: 2, Node: 0, Hop: 7}}, api.OK},
		{wide, tally(list(not(1), not(5), has(7)), list(not(2), not(9), has(7))), nil, api.ErrTwo},
	} {
		if l, e := report.Decide(c.s, c.x); !slices.Equal(l, c.want) || e != c.e {
			t.Errorf("Decide(%v) = %v %v", c.x, l, e)
		}
	}
}

// TestOf: P18.2.
func TestOf(t *testing.T) {
	l := []api.Back{{Lock: 0, Node: 1, Hop: 2}, {Lock: 2, Node: 0, Hop: 7}, {Lock: 3, Node: 1, Hop: 4}}
	if got := report.Of(l, 1); !slices.Equal(got, []api.Back{l[0], l[2]}) {
		t.Errorf("Of: %v", got)
	}
	got := report.Of(l, 0)
	got[0].Hop = 99
	if l[1].Hop != 7 || len(report.Of(l, 5)) != 0 || len(report.Of(nil, 0)) != 0 {
		t.Error("Of")
	}
}

// TestLastSender: P18.3, what is lost its last sender takes back, and nobody else.
func TestLastSender(t *testing.T) {
	r := rand.New(rand.NewSource(16))
	for range 400 {
		s := api.Shape{Nodes: 2 + r.Intn(5), Locks: 1 + r.Intn(3), Slots: 1}
		reports := make([][]api.Report, s.Nodes)
		for n := range reports {
			reports[n] = make([]api.Report, s.Locks)
		}
		var want []api.Back
		for lock := range s.Locks {
			at, hop := r.Intn(s.Nodes), int64(1)
			for range r.Intn(9) {
				to := (at + 1 + r.Intn(s.Nodes-1)) % s.Nodes
				hop++
				reports[at][lock] = not(hop)
				at = to
			}
			last := at
			if r.Intn(2) == 0 { // it is sent, and doesn't arrive
				hop++
				reports[last][lock] = not(hop)
				want = append(want, api.Back{Lock: lock, Node: last, Hop: hop})
			} else {
				reports[at][lock] = has(hop)
			}
		}
		x, _ := report.New(s)
		for _, n := range r.Perm(s.Nodes) {
			x, _, _ = report.Add(s, x, n, reports[n])
		}
		if l, e := report.Decide(s, x); !slices.Equal(l, want) || e != api.OK {
			t.Fatalf("Decide(%v) = %v %v, not %v", x, l, e, want)
		}
	}
}
