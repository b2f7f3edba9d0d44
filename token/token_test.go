package token_test

import (
	"bytes"
	"math"
	"math/rand"
	"slices"
	"testing"

	"castellan/api"
	"castellan/mode"
	"castellan/octet"
	"castellan/token"
)

var (
	two   = api.Shape{Nodes: 2, Locks: 1, Slots: 1}
	four  = api.Shape{Nodes: 2, Locks: 2, Slots: 2}
	great = api.Shape{Nodes: 64, Locks: 8, Slots: 4}
)

func over(n int64) api.Stat { return api.Stat{Over: n} }

func wants(n int64, m api.Mode, prio int) api.Stat {
	return api.Stat{Over: n, Pending: true, Mode: m, Prio: prio}
}

func w(site int, use int64, m api.Mode, prio, age int) api.Waiting {
	return api.Waiting{Site: site, Use: use, Mode: m, Prio: prio, Age: age}
}

func h(site int, use int64, m api.Mode) api.Hold { return api.Hold{Site: site, Use: use, Mode: m} }

// copied is another token with the same.
func copied(t api.Token) api.Token {
	t.Over, t.Wait, t.Holds = slices.Clone(t.Over), slices.Clone(t.Wait), slices.Clone(t.Holds)
	return t
}

// some is a token of the shape four: site 0 waits, 1 and 2 hold, of 3 a use is over.
func some() api.Token {
	return api.Token{Hop: 7, Over: []int64{0, 4, 2, 1}, Wait: []api.Waiting{w(0, 1, api.ModeX, 2, 3)}, Holds: []api.Hold{h(1, 5, api.ModeS), h(2, 3, api.ModeIS)}, Counter: api.Counter{Value: 5, Floor: -2, Version: 9}}
}

// wrong are tokens of the shape four that may not be.
func wrong() []api.Token {
	var l []api.Token
	for _, change := range []func(*api.Token){
		func(t *api.Token) { t.Hop = -1 }, func(t *api.Token) { t.Hop = api.MaxHop + 1 }, func(t *api.Token) { t.Over = t.Over[:3] }, func(t *api.Token) { t.Over = append(t.Over, 0) }, func(t *api.Token) { t.Over = nil },
		func(t *api.Token) { t.Over[3] = -1 }, func(t *api.Token) { t.Over[3] = api.MaxUse + 1 }, func(t *api.Token) { t.Over[0] = 1 }, func(t *api.Token) { t.Over[1] = 5 }, func(t *api.Token) { t.Over[1] = 3 },
		func(t *api.Token) { t.Wait[0].Site = 4 }, func(t *api.Token) { t.Wait[0].Mode = 0 }, func(t *api.Token) { t.Wait[0].Age = 65 }, func(t *api.Token) { t.Wait = append(t.Wait, t.Wait[0]) }, func(t *api.Token) { t.Wait[0] = w(1, 5, 1, 0, 0) },
		func(t *api.Token) { t.Holds[1].Site = 4 }, func(t *api.Token) { t.Holds[0].Mode = api.ModeX }, func(t *api.Token) { t.Holds[0].Use = 0 }, func(t *api.Token) { t.Holds[0], t.Holds[1] = t.Holds[1], t.Holds[0] },
		func(t *api.Token) { t.Counter.Floor = 6 }, func(t *api.Token) { t.Counter.Version = api.MaxVersion + 1 },
	} {
		t := some()
		change(&t)
		l = append(l, t)
	}
	return l
}

// same fails where two tokens are not the same.
func same(t *testing.T, what string, got, want api.Token) {
	t.Helper()
	if !token.Same(got, want) {
		t.Errorf("%s: %v, not %v", what, got, want)
	}
}

// TestNewCheck: P15.1.
func TestNewCheck(t *testing.T) {
	for _, s := range []api.Shape{two, great} {
		x, e := token.New(s, api.Counter{Value: 5, Floor: 5, Version: 2})
		same(t, "New", x, api.Token{Over: make([]int64, s.Nodes*s.Slots), Counter: api.Counter{Value: 5, Floor: 5, Version: 2}})
		if e != api.OK || token.Check(s, x) != api.OK {
			t.Errorf("New: %v", e)
		}
	}
	if x, e := token.New(two, api.Counter{Floor: 1}); e != api.ErrArg || !token.Same(x, api.Token{}) {
		t.Errorf("a counter that may not be: %v", e)
	}
	if e := token.Check(four, some()); e != api.OK {
		t.Errorf("Check: %v", e)
	}
	end := some()
	end.Hop, end.Over[3], end.Over[0], end.Wait[0].Use = api.MaxHop, api.MaxUse, api.MaxUse-1, api.MaxUse
	if e := token.Check(four, end); e != api.OK {
		t.Errorf("at the bounds: %v", e)
	}
}

// refuses holds all calls on a token against an error.
func refuses(t *testing.T, s api.Shape, x api.Token, known []api.Stat) {
	t.Helper()
	a, e1 := token.Learn(s, x, known)
	b, hold, ok, e2 := token.Grant(s, x, -1)
	n, go1, e3 := token.Goes(s, x, -1)
	c, e4 := token.Change(s, x, 1, 0)
	v, e5 := token.Value(s, x, -1)
	raw, e6 := token.Bytes(s, x)
	for i, e := range []api.Errno{token.Check(s, x), e1, e2, e3, e4, e5, e6} {
		if e != api.ErrArg {
			t.Errorf("%d: %v of %v", i, e, x)
		}
	}
	if !token.Same(a, api.Token{}) || !token.Same(b, api.Token{}) || !token.Same(c, api.Token{}) || hold != (api.Hold{}) || ok || n != 0 || go1 || v != 0 || raw != nil {
		t.Errorf("something beside an error: %v", x)
	}
}

// TestWrong: P15.1 to P15.4, tokens and shapes that may not be.
func TestWrong(t *testing.T) {
	for _, x := range wrong() {
		refuses(t, four, x, make([]api.Stat, 4))
	}
	for _, s := range []api.Shape{{}, {Nodes: 65, Locks: 1, Slots: 1}, {Nodes: -1, Locks: 1, Slots: 1}} {
		refuses(t, s, some(), nil)
		_, e1 := token.New(s, api.Counter{})
		x, many, e2 := token.Read(s, nil)
		if e1 != api.ErrArg || e2 != api.ErrArg || many != 0 || !token.Same(x, api.Token{}) {
			t.Errorf("%v: %v %v", s, e1, e2)
		}
	}
	for _, known := range [][]api.Stat{nil, make([]api.Stat, 3), make([]api.Stat, 5), {over(0), over(0), over(-1), over(0)}, {over(0), wants(0, 6, 0), over(0), over(0)}} {
		if x, e := token.Learn(four, some(), known); e != api.ErrArg || !token.Same(x, api.Token{}) {
			t.Errorf("Learn(%v): %v", known, e)
		}
	}
	for _, limit := range []int{-1, 65, math.MaxInt} {
		if x, _, ok, e := token.Grant(four, some(), limit); e != api.ErrArg || ok || !token.Same(x, api.Token{}) {
			t.Errorf("cap %d: %v", limit, e)
		}
	}
	for _, n := range []int{-1, 4, math.MaxInt} {
		_, _, e1 := token.Goes(four, some(), n)
		_, e2 := token.Change(four, some(), n, 1)
		_, e3 := token.Value(four, some(), n)
		if e1 != api.ErrArg || e2 != api.ErrArg || e3 != api.ErrArg {
			t.Errorf("%d: %v %v %v", n, e1, e2, e3)
		}
	}
	if _, _, e := token.Goes(four, some(), 2); e != api.ErrArg {
		t.Errorf("a site is no node: %v", e)
	}
}

// TestExample: P15.2, P15.3.
func TestExample(t *testing.T) {
	x, _ := token.New(two, api.Counter{Value: 5})
	x, e := token.Learn(two, x, []api.Stat{over(0), wants(0, api.ModeX, 0)})
	same(t, "Learn", x, api.Token{Over: []int64{0, 0}, Wait: []api.Waiting{w(1, 1, api.ModeX, 0, 0)}, Counter: api.Counter{Value: 5}})
	x, hold, ok, f := token.Grant(two, x, 3)
	same(t, "Grant", x, api.Token{Over: []int64{0, 0}, Holds: []api.Hold{h(1, 1, api.ModeX)}, Counter: api.Counter{Value: 5}})
	if e != api.OK || f != api.OK || !ok || hold != h(1, 1, api.ModeX) {
		t.Errorf("%v %v %v %v", hold, ok, e, f)
	}
	if n, ok, e := token.Goes(two, x, 0); n != 1 || !ok || e != api.OK {
		t.Errorf("Goes from 0: %d %v %v", n, ok, e)
	}
	if n, ok, e := token.Goes(two, x, 1); n != 0 || ok || e != api.OK {
		t.Errorf("Goes from 1: %d %v %v", n, ok, e)
	}
	y, e := token.Change(two, x, 1, -3)
	if e != api.OK || y.Counter != (api.Counter{Value: 2, Version: 1}) || x.Counter.Value != 5 {
		t.Errorf("Change: %v %v", y, e)
	}
	for _, c := range []struct {
		at   int
		by   int64
		want api.Errno
	}{{0, 1, api.ErrRight}, {1, 0, api.ErrArg}, {1, -6, api.ErrFloor}, {1, math.MaxInt64, api.ErrOver}, {2, 0, api.ErrArg}} {
		if y, e := token.Change(two, x, c.at, c.by); e != c.want || !token.Same(y, api.Token{}) {
			t.Errorf("Change(%d, %d): %v", c.at, c.by, e)
		}
	}
	x, _ = token.Learn(two, y, []api.Stat{over(0), over(1)})
	same(t, "Learn the end", x, api.Token{Over: []int64{0, 1}, Counter: api.Counter{Value: 2, Version: 1}})
}

// TestLearn: P15.2, site by site.
func TestLearn(t *testing.T) {
	x := some()
	was := copied(x)
	got, _ := token.Learn(four, x, []api.Stat{wants(2, api.ModeS, 1), wants(4, api.ModeX, 3), wants(1, api.ModeX, 0), wants(1, api.ModeIX, 2)})
	want := copied(was)
	want.Over = []int64{2, 4, 2, 1}
	want.Wait = []api.Waiting{w(0, 3, api.ModeS, 1, 0), w(3, 2, api.ModeIX, 2, 0)}
	same(t, "Learn", got, want)
	same(t, "what was handed in", x, was)
	again, _ := token.Learn(four, got, []api.Stat{wants(2, api.ModeX, 3), over(3), over(0), wants(1, api.ModeS, 0)})
	same(t, "what is known", again, got)
	got, _ = token.Learn(four, x, []api.Stat{over(1), over(7), wants(3, api.ModeIS, 0), over(0)})
	same(t, "ends", got, api.Token{Hop: 7, Over: []int64{1, 7, 3, 1}, Wait: []api.Waiting{w(2, 4, api.ModeIS, 0, 0)}, Counter: x.Counter})
}

// TestGrant: P15.2, the next one beside what is held.
func TestGrant(t *testing.T) {
	x := some()
	got, hold, ok, e := token.Grant(four, x, 1)
	same(t, "nobody is next", got, x)
	if hold != (api.Hold{}) || ok || e != api.OK {
		t.Errorf("%v %v %v", hold, ok, e)
	}
	x.Wait = append(x.Wait, w(3, 2, api.ModeS, 0, 0))
	got, hold, ok, _ = token.Grant(four, x, 64)
	want := some()
	want.Wait = []api.Waiting{w(0, 1, api.ModeX, 2, 4)}
	want.Holds = append(want.Holds, h(3, 2, api.ModeS))
	same(t, "Grant", got, want)
	if hold != h(3, 2, api.ModeS) || !ok {
		t.Errorf("%v %v", hold, ok)
	}
	for limit := range 4 {
		if got, _, ok, e := token.Grant(four, x, limit); ok || e != api.OK || !token.Same(got, x) {
			t.Errorf("cap %d: one goes ahead of an aged one, %v", limit, e)
		}
	}
	for me := range 2 {
		if n, ok, e := token.Goes(four, x, me); n != 0 || ok || e != api.OK {
			t.Errorf("nobody writes: %d %v %v", n, ok, e)
		}
	}
}

// TestRight: P15.3, who reads, who writes.
func TestRight(t *testing.T) {
	for m := api.ModeIS; m <= api.ModeX; m++ {
		x := some()
		x.Holds = []api.Hold{h(1, 5, m)}
		v, e1 := token.Value(four, x, 1)
		_, e2 := token.Change(four, x, 1, 1)
		if (e1 == api.OK) != (m >= api.ModeS) || (e2 == api.OK) != (m == api.ModeX) || e1 == api.OK && v != 5 || e1 != api.OK && e1 != api.ErrRight || e2 != api.OK && e2 != api.ErrRight {
			t.Errorf("%d: %v %v", m, e1, e2)
		}
	}
	if v, e := token.Value(four, some(), 0); v != 0 || e != api.ErrRight {
		t.Errorf("one that waits reads: %v", e)
	}
}

// TestBytes: P15.4, the bytes, number by number.
func TestBytes(t *testing.T) {
	b, e := token.Bytes(four, some())
	want := []byte{7, 0, 4, 2, 1, 1, 0, 1, 5, 2, 3, 2, 1, 5, 3, 2, 3, 1, 10, 3, 9}
	if !bytes.Equal(b, want) || e != api.OK {
		t.Errorf("Bytes: %v %v", b, e)
	}
	x, many, e := token.Read(four, append(b, 9, 9))
	same(t, "Read", x, some())
	if many != len(want) || e != api.OK {
		t.Errorf("Read: %d %v", many, e)
	}
	for cut := range want {
		if x, many, e := token.Read(four, want[:cut]); e != api.ErrEnds || many != 0 || !token.Same(x, api.Token{}) {
			t.Errorf("cut at %d: %v", cut, e)
		}
		bad := append(slices.Clone(want[:cut]), 0x80, 0)
		if _, _, e := token.Read(four, bad); e != api.ErrForm {
			t.Errorf("form at %d: %v", cut, e)
		}
	}
}

// TestReadWrong: P15.4, ErrToken where a list is too long at once, else behind all numbers.
func TestReadWrong(t *testing.T) {
	long := octet.Number(257)
	for _, c := range []struct {
		b    []byte
		want api.Errno
	}{
		{slices.Concat([]byte{0, 0, 0}, long), api.ErrToken}, {slices.Concat([]byte{0, 0, 0, 0}, long), api.ErrToken}, {slices.Concat([]byte{0, 0, 0}, octet.Number(math.MaxUint64)), api.ErrToken},
		{slices.Concat([]byte{0, 0, 0}, octet.Number(256)), api.ErrEnds}, {[]byte{0, 0, 0, 0, 0, 0, 2, 0}, api.ErrToken}, {[]byte{0, 0, 0, 0, 0, 0, 0, 0}, api.OK},
		{slices.Concat(octet.Number(math.MaxUint64), []byte{0, 0, 0, 0, 0, 0}), api.ErrEnds}, {slices.Concat(octet.Number(math.MaxUint64), []byte{0, 0, 0, 0, 0, 0, 0}), api.ErrToken},
		{slices.Concat(octet.Number(1<<63), []byte{0, 0, 0, 0, 0, 0, 0}), api.ErrToken}, {slices.Concat([]byte{0, 0}, octet.Number(api.MaxUse+1), []byte{0, 0, 0, 0, 0}), api.ErrToken},
		{slices.Concat([]byte{0, 0, 0, 0, 0, 0, 0}, octet.Number(api.MaxVersion+1)), api.ErrToken}, {[]byte{0, 0, 0, 1, 2, 1, 1, 0, 0, 0, 0, 0, 0}, api.ErrToken}, {[]byte{0, 0, 0, 1, 1, 1, 1, 0, 0, 0, 0, 0, 0}, api.OK},
		{slices.Concat([]byte{0, 0, 0, 1}, octet.Number(1<<63+1), []byte{1, 1, 0, 0, 0, 0, 0, 0}), api.ErrToken},
	} {
		if x, many, e := token.Read(two, c.b); e != c.want || e != api.OK && (many != 0 || !token.Same(x, api.Token{})) {
			t.Errorf("Read(%v) = %v", c.b, e)
		}
	}
}

// TestSame: P15.1, part by part; nil and empty lists are the same.
func TestSame(t *testing.T) {
	if !token.Same(some(), some()) || !token.Same(api.Token{Over: []int64{}, Wait: []api.Waiting{}}, api.Token{Holds: []api.Hold{}}) {
		t.Error("the same are others")
	}
	for i, change := range []func(*api.Token){
		func(t *api.Token) { t.Hop++ }, func(t *api.Token) { t.Over[3]++ }, func(t *api.Token) { t.Wait[0].Age++ }, func(t *api.Token) { t.Wait = nil }, func(t *api.Token) { t.Holds[1].Use++ }, func(t *api.Token) { t.Holds = t.Holds[:1] }, func(t *api.Token) { t.Counter.Version++ },
	} {
		x := some()
		change(&x)
		if token.Same(x, some()) || token.Same(some(), x) {
			t.Errorf("%d: another one is the same", i)
		}
	}
}

// TestApart: answers share no memory with what is handed in.
func TestApart(t *testing.T) {
	x := some()
	a, _ := token.Learn(four, x, make([]api.Stat, 4))
	b, _, _, _ := token.Grant(four, x, 1)
	c, _ := token.Change(four, func() api.Token { y := some(); y.Holds = []api.Hold{h(1, 5, api.ModeX)}; return y }(), 1, 1)
	for _, y := range []api.Token{a, b, c} {
		y.Over[0], y.Wait[0].Age, y.Holds[0].Use = 99, 9, 99
	}
	same(t, "what was handed in", x, some())
}

// TestLife: P15.5, whatever is learned, granted and changed.
func TestLife(t *testing.T) {
	r := rand.New(rand.NewSource(13))
	for range 100 {
		x, _ := token.New(four, api.Counter{Value: 3})
		for range 60 {
			known := make([]api.Stat, 4)
			for i := range known {
				n := max(x.Over[i]+int64(r.Intn(4))-2, 0)
				known[i] = []api.Stat{over(n), wants(n, api.Mode(1+r.Intn(5)), r.Intn(4))}[r.Intn(2)]
			}
			switch r.Intn(3) {
			case 0:
				after, e := token.Learn(four, x, known)
				again, f := token.Learn(four, after, known)
				if e != api.OK || f != api.OK || !token.Same(after, again) {
					t.Fatalf("learned again: %v %v", after, again)
				}
				for i, k := range known {
					in := slices.ContainsFunc(after.Wait, func(w api.Waiting) bool { return w.Site == i }) || slices.ContainsFunc(after.Holds, func(h api.Hold) bool { return h.Site == i })
					if after.Over[i] < k.Over || k.Pending && after.Over[i] == k.Over && !in {
						t.Fatalf("site %d is not known: %v %v", i, k, after)
					}
				}
				x = after
			case 1:
				x, _, _, _ = token.Grant(four, x, 2)
			case 2:
				if y, e := token.Change(four, x, r.Intn(4), int64(r.Intn(7)-3)); e == api.OK {
					x = y
				}
			}
			var modes []api.Mode
			for _, h := range x.Holds {
				modes = append(modes, h.Mode)
			}
			if ok, _ := mode.Together(modes...); !ok || token.Check(four, x) != api.OK || x.Counter.Value < 0 {
				t.Fatalf("no token: %v", x)
			}
			b, _ := token.Bytes(four, x)
			if y, many, e := token.Read(four, b); !token.Same(x, y) || many != len(b) || e != api.OK {
				t.Fatalf("Read of Bytes: %v, not %v", y, x)
			}
		}
	}
}
