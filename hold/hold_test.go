package hold_test

import (
	"math"
	"math/rand"
	"slices"
	"testing"

	"castellan/api"
	"castellan/hold"
	"castellan/mode"
)

func h(site int, use int64, m api.Mode) api.Hold { return api.Hold{Site: site, Use: use, Mode: m} }

// wrong are holds that may not be.
func wrong() []api.Hold {
	return []api.Hold{h(-1, 1, 1), h(256, 1, 1), h(math.MaxInt, 1, 1), h(3, 0, 1), h(3, -1, 1), h(3, api.MaxUse+1, 1), h(3, 1, 0), h(3, 1, 6), h(3, 1, -1)}
}

// TestCheck: P13.1, P13.2, what is no holds; of that there is nothing.
func TestCheck(t *testing.T) {
	var many []api.Hold
	for i := range api.MaxSites {
		many = append(many, h(i, api.MaxUse, api.ModeIS))
	}
	for _, l := range [][]api.Hold{nil, {}, {h(0, 1, api.ModeX)}, {h(2, 5, api.ModeS), h(4, 1, api.ModeIS)}, many} {
		if e := hold.Check(l); e != api.OK {
			t.Errorf("%v: %v", l, e)
		}
	}
	bad := [][]api.Hold{{h(2, 1, 1), h(1, 1, 1)}, {h(2, 1, 1), h(2, 2, 1)}, {h(1, 1, api.ModeX), h(2, 1, api.ModeIS)}, {h(1, 1, api.ModeS), h(2, 1, api.ModeIS), h(3, 1, api.ModeIX)}, {h(1, 1, api.ModeX), h(2, 1, api.ModeX)}}
	for _, x := range wrong() {
		bad = append(bad, []api.Hold{x}, []api.Hold{h(2, 1, 1), x})
		if l, e := hold.Add(nil, x); l != nil || e != api.ErrArg {
			t.Errorf("Add(%v): %v", x, e)
		}
	}
	for _, l := range bad {
		a, e1 := hold.Add(l, h(9, 1, 1))
		b, e2 := hold.End(l, l[0].Site, math.MaxInt64)
		ok, e3 := hold.Fits(l, 0)
		if hold.Check(l) != api.ErrArg || e1 != api.ErrArg || e2 != api.ErrArg || e3 != api.ErrArg || a != nil || b != nil || ok {
			t.Errorf("%v: %v %v %v", l, e1, e2, e3)
		}
		if x, ok := hold.Find(l, l[0].Site); x != (api.Hold{}) || ok {
			t.Errorf("Find in %v", l)
		}
		if x, ok := hold.Writer(l); x != (api.Hold{}) || ok {
			t.Errorf("Writer of %v", l)
		}
		if len(hold.Modes(l)) != 0 {
			t.Errorf("Modes of %v", l)
		}
		for range hold.Each(l) {
			t.Errorf("Each of %v", l)
		}
	}
}

// TestExample: P13.1, P13.2.
func TestExample(t *testing.T) {
	l := append(make([]api.Hold, 0, 9), h(2, 5, api.ModeS), h(4, 1, api.ModeIS))
	room := l[:3]
	room[2] = h(99, 1, 1)
	for _, c := range []struct {
		x    api.Hold
		want []api.Hold
		e    api.Errno
	}{
		{h(3, 1, api.ModeIX), nil, api.ErrApart}, {h(2, 1, api.ModeIS), nil, api.ErrHeld}, {h(2, 1, api.ModeX), nil, api.ErrHeld},
		{h(1, 1, api.ModeS), []api.Hold{h(1, 1, api.ModeS), l[0], l[1]}, api.OK}, {h(3, 7, api.ModeIS), []api.Hold{l[0], h(3, 7, api.ModeIS), l[1]}, api.OK}, {h(9, 7, api.ModeS), []api.Hold{l[0], l[1], h(9, 7, api.ModeS)}, api.OK},
	} {
		if got, e := hold.Add(l, c.x); !slices.Equal(got, c.want) || e != c.e {
			t.Errorf("Add(%v) = %v %v", c.x, got, e)
		}
	}
	if room[2].Site != 99 || l[0] != h(2, 5, api.ModeS) {
		t.Error("Add changes what it is handed")
	}
	for _, c := range []struct {
		site int
		use  int64
		want []api.Hold
		e    api.Errno
	}{
		{2, 4, nil, api.ErrNone}, {2, 5, l[1:], api.OK}, {2, 9, l[1:], api.OK}, {4, 1, l[:1], api.OK}, {3, 9, nil, api.ErrNone}, {-1, 9, nil, api.ErrNone}, {256, 9, nil, api.ErrNone}, {2, -1, nil, api.ErrNone}, {2, math.MinInt64, nil, api.ErrNone},
	} {
		if got, e := hold.End(l, c.site, c.use); !slices.Equal(got, c.want) || e != c.e {
			t.Errorf("End(%d, %d) = %v %v", c.site, c.use, got, e)
		}
	}
	for m, want := range []bool{true, true, false, true, false, false} {
		if ok, e := hold.Fits(l, api.Mode(m)); ok != want || e != api.OK {
			t.Errorf("Fits(%d) = %v %v", m, ok, e)
		}
	}
	for _, m := range []api.Mode{-1, 6} {
		if ok, e := hold.Fits(l, m); ok || e != api.ErrArg {
			t.Errorf("Fits(%d) = %v %v", m, ok, e)
		}
	}
}

// TestTells: P13.2, what is told of holds.
func TestTells(t *testing.T) {
	l := []api.Hold{h(2, 5, api.ModeS), h(4, 1, api.ModeIS)}
	for site, want := range map[int]bool{1: false, 2: true, 3: false, 4: true, 5: false, -1: false} {
		x, ok := hold.Find(l, site)
		if ok != want || ok && x.Site != site || !ok && x != (api.Hold{}) {
			t.Errorf("Find(%d) = %v %v", site, x, ok)
		}
	}
	if x, ok := hold.Writer(l); ok || x != (api.Hold{}) {
		t.Errorf("Writer: %v", x)
	}
	if x, ok := hold.Writer([]api.Hold{h(7, 3, api.ModeX)}); !ok || x != h(7, 3, api.ModeX) {
		t.Errorf("Writer: %v %v", x, ok)
	}
	if m := hold.Modes(l); !slices.Equal(m, []api.Mode{api.ModeS, api.ModeIS}) {
		t.Errorf("Modes: %v", m)
	}
	seq := hold.Each(l)
	for range 2 {
		var sites []int
		var got []api.Hold
		for site, x := range seq {
			sites, got = append(sites, site), append(got, x)
		}
		if !slices.Equal(sites, []int{2, 4}) || !slices.Equal(got, l) {
			t.Errorf("Each: %v %v", sites, got)
		}
	}
	for site := range seq {
		if site != 2 {
			t.Errorf("first: %d", site)
		}
		break
	}
}

// TestHolds: P13.3, however holds are added and ended they are holds; a writer holds alone; End undoes Add.
func TestHolds(t *testing.T) {
	r := rand.New(rand.NewSource(11))
	for range 200 {
		var l []api.Hold
		for range 60 {
			x := h(r.Intn(8), int64(1+r.Intn(3)), api.Mode(1+r.Intn(5)))
			if r.Intn(3) == 0 {
				if got, e := hold.End(l, x.Site, x.Use); e == api.OK {
					l = got
				}
			} else if got, e := hold.Add(l, x); e == api.OK {
				back, f := hold.End(got, x.Site, x.Use)
				if !slices.Equal(back, l) || f != api.OK {
					t.Fatalf("End of Add(%v) is %v, not %v", x, back, l)
				}
				l = got
			} else {
				together, _ := mode.Together(append(hold.Modes(l), x.Mode)...)
				_, there := hold.Find(l, x.Site)
				if want := map[bool]api.Errno{true: api.ErrHeld, false: api.ErrApart}[there]; e != want || !there && together {
					t.Fatalf("Add(%v) to %v: %v", x, l, e)
				}
			}
			if hold.Check(l) != api.OK {
				t.Fatalf("no holds: %v", l)
			}
			if _, ok := hold.Writer(l); ok && len(l) != 1 {
				t.Fatalf("a writer beside others: %v", l)
			}
		}
	}
}
