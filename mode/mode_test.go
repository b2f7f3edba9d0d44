package mode_test

import (
	"math"
	"slices"
	"testing"

	"castellan/api"
	"castellan/mode"
)

var all = []api.Mode{api.ModeNone, api.ModeIS, api.ModeIX, api.ModeS, api.ModeSIX, api.ModeX}

var wrong = []api.Mode{-1, api.ModeX + 1, math.MaxInt, math.MinInt, 64, 67}

var table = []string{
	"yyyyyy",
	"yyyyyn",
	"yyynnn",
	"yynynn",
	"yynnnn",
	"ynnnnn",
}

var over = []string{
	"ynnnnn",
	"yynnnn",
	"yyynnn",
	"yynynn",
	"yyyyyn",
	"yyyyyy",
}

// TestFitsCovers: P3.1, P3.4, the tables.
func TestFitsCovers(t *testing.T) {
	for a := range all {
		if e := mode.Check(all[a]); e != api.OK {
			t.Errorf("Check(%d) %v", a, e)
		}
		for b := range all {
			if ok, e := mode.Fits(all[a], all[b]); ok != (table[a][b] == 'y') || e != api.OK {
				t.Errorf("Fits(%d, %d) = %v %v", a, b, ok, e)
			}
			if ok, e := mode.Covers(all[a], all[b]); ok != (over[a][b] == 'y') || e != api.OK {
				t.Errorf("Covers(%d, %d) = %v %v", a, b, ok, e)
			}
		}
	}
}

// TestWrong: P3.1 to P3.3, what is no mode.
func TestWrong(t *testing.T) {
	for _, w := range wrong {
		if e := mode.Check(w); e != api.ErrMode {
			t.Errorf("Check(%d) %v", w, e)
		}
		for _, m := range append([]api.Mode{w}, all...) {
			for _, ask := range []func(a, b api.Mode) (bool, api.Errno){mode.Fits, mode.Covers, func(a, b api.Mode) (bool, api.Errno) { return mode.Together(a, b) }} {
				if ok, e := ask(w, m); ok || e != api.ErrMode {
					t.Errorf("%d, %d: %v %v", w, m, ok, e)
				}
				if ok, e := ask(m, w); ok || e != api.ErrMode {
					t.Errorf("%d, %d: %v %v", m, w, ok, e)
				}
			}
			if j, e := mode.Join(m, w); j != 0 || e != api.ErrMode {
				t.Errorf("Join(%d, %d): %v %v", m, w, j, e)
			}
		}
		if s, e := mode.Text(w); s != "" || e != api.ErrMode {
			t.Errorf("Text(%d) = %q %v", w, s, e)
		}
		if mode.Reads(w) || mode.Writes(w) {
			t.Errorf("%d reads, or writes", w)
		}
	}
	if ok, e := mode.Together(api.ModeX, api.ModeX, 9); ok || e != api.ErrMode {
		t.Errorf("a wrong one last: %v %v", ok, e)
	}
	for _, s := range []string{"", "X", "sx", "none ", " is", "six\x00", "\xff"} {
		if m, e := mode.Parse(s); m != 0 || e != api.ErrMode {
			t.Errorf("Parse(%q) = %v %v", s, m, e)
		}
	}
}

// TestJoin: P3.2, P3.4, the least that covers all, however they stand.
func TestJoin(t *testing.T) {
	if j, e := mode.Join(); j != api.ModeNone || e != api.OK {
		t.Errorf("Join() = %v %v", j, e)
	}
	least := func(l ...int) api.Mode {
		for m := range all {
			if !slices.ContainsFunc(l, func(x int) bool { return over[m][x] != 'y' }) {
				return api.Mode(m)
			}
		}
		return -1
	}
	for a := range all {
		for b := range all {
			for c := range all {
				if j, e := mode.Join(all[a], all[b], all[c]); j != least(a, b, c) || e != api.OK {
					t.Errorf("Join(%d, %d, %d) = %d %v", a, b, c, j, e)
				}
			}
		}
		if j, _ := mode.Join(all[a]); j != all[a] {
			t.Errorf("Join(%d) = %d", a, j)
		}
	}
	if j, _ := mode.Join(api.ModeIX, api.ModeS); j != api.ModeSIX {
		t.Errorf("ix and s: %d", j)
	}
}

// TestTogether: P3.2, each two at different places.
func TestTogether(t *testing.T) {
	for a := range all {
		for b := range all {
			for c := range all {
				want := table[a][b] == 'y' && table[a][c] == 'y' && table[b][c] == 'y'
				if ok, e := mode.Together(all[a], all[b], all[c]); ok != want || e != api.OK {
					t.Errorf("Together(%d, %d, %d) = %v %v", a, b, c, ok, e)
				}
			}
		}
		if ok, e := mode.Together(all[a]); !ok || e != api.OK {
			t.Errorf("Together(%d) = %v %v", a, ok, e)
		}
	}
	if ok, e := mode.Together(); !ok || e != api.OK {
		t.Errorf("Together() = %v %v", ok, e)
	}
	if ok, _ := mode.Together(api.ModeIS, api.ModeIS, api.ModeSIX); !ok {
		t.Error("is, is, six do not go together")
	}
}

// TestNames: P3.3, names, and what reads and writes.
func TestNames(t *testing.T) {
	names := []string{"none", "is", "ix", "s", "six", "x"}
	seq := mode.Modes()
	for range 2 {
		next := 0
		for m, s := range seq {
			if m != all[next] || s != names[next] {
				t.Errorf("%d: %d %q", next, m, s)
			}
			next++
		}
		if next != len(all) {
			t.Errorf("%d modes", next)
		}
	}
	for m := range mode.Modes() {
		if m != api.ModeNone {
			t.Errorf("first: %d", m)
		}
		break
	}
	for i, m := range all {
		if s, e := mode.Text(m); s != names[i] || e != api.OK {
			t.Errorf("Text(%d) = %q %v", m, s, e)
		}
		if got, e := mode.Parse(names[i]); got != m || e != api.OK {
			t.Errorf("Parse(%q) = %d %v", names[i], got, e)
		}
		if mode.Reads(m) != (i >= 3) || mode.Writes(m) != (i == 5) {
			t.Errorf("%d: reads %v, writes %v", m, mode.Reads(m), mode.Writes(m))
		}
	}
}

// TestOrder: P3.4, what goes together with a mode goes with each that it covers; Covers is an order.
func TestOrder(t *testing.T) {
	yes := func(ask func(a, b api.Mode) (bool, api.Errno), a, b api.Mode) bool {
		ok, e := ask(a, b)
		return ok && e == api.OK
	}
	for _, a := range all {
		for _, b := range all {
			if yes(mode.Fits, a, b) != yes(mode.Fits, b, a) {
				t.Errorf("Fits(%d, %d) is another one the other way", a, b)
			}
			if a != b && yes(mode.Covers, a, b) && yes(mode.Covers, b, a) {
				t.Errorf("%d and %d cover each other", a, b)
			}
			for _, c := range all {
				if yes(mode.Covers, a, b) && yes(mode.Fits, a, c) && !yes(mode.Fits, b, c) {
					t.Errorf("%d goes with %d, not with %d", c, a, b)
				}
				if yes(mode.Covers, a, b) && yes(mode.Covers, b, c) && !yes(mode.Covers, a, c) {
					t.Errorf("%d, %d, %d: no order", a, b, c)
				}
			}
		}
	}
}
