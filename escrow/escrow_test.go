package escrow_test

import (
	"math"
	"math/big"
	"math/rand"
	"testing"

	"castellan/api"
	"castellan/escrow"
)

const (
	least = math.MinInt64
	most  = math.MaxInt64
	last  = api.MaxVersion
)

func counter(v, f int64, n uint64) api.Counter { return api.Counter{Value: v, Floor: f, Version: n} }

// TestCheck: P4.1, what may not be.
func TestCheck(t *testing.T) {
	for _, c := range []api.Counter{{}, counter(5, 5, 0), counter(most, least, last), counter(least, least, 1)} {
		if e := escrow.Check(c); e != api.OK {
			t.Errorf("%v: %v", c, e)
		}
	}
	for _, c := range []api.Counter{counter(4, 5, 0), counter(least, most, 0), counter(1, 0, last+1), counter(1, 0, math.MaxUint64)} {
		if e := escrow.Check(c); e != api.ErrArg {
			t.Errorf("%v: %v", c, e)
		}
		for name, do := range map[string]func() (api.Counter, api.Errno){
			"Debit":  func() (api.Counter, api.Errno) { return escrow.Debit(c, 1) },
			"Credit": func() (api.Counter, api.Errno) { return escrow.Credit(c, 1) },
			"Change": func() (api.Counter, api.Errno) { return escrow.Change(c, 1) },
		} {
			if d, e := do(); d != (api.Counter{}) || e != api.ErrArg {
				t.Errorf("%s of %v: %v %v", name, c, d, e)
			}
		}
		if n, e := escrow.Spare(c); n != 0 || e != api.ErrArg {
			t.Errorf("Spare of %v: %v %v", c, n, e)
		}
		if d, n, e := escrow.Run(c, 1); d != (api.Counter{}) || n != 0 || e != api.ErrArg {
			t.Errorf("Run of %v: %v %v %v", c, d, n, e)
		}
		for range escrow.Each(c, 1) {
			t.Errorf("Each of %v tells something", c)
		}
	}
}

// TestDebitCredit: P4.1, the edges, and the errors in their order.
func TestDebitCredit(t *testing.T) {
	type row struct {
		c    api.Counter
		n    int64
		want api.Counter
		e    api.Errno
	}
	for _, r := range []row{
		{counter(5, 2, 0), 3, counter(2, 2, 1), api.OK}, {counter(5, 2, 0), 4, api.Counter{}, api.ErrFloor},
		{counter(5, 2, 0), 0, api.Counter{}, api.ErrArg}, {counter(5, 2, 0), -1, api.Counter{}, api.ErrArg}, {counter(5, 2, 0), least, api.Counter{}, api.ErrArg},
		{counter(5, 2, last), 4, api.Counter{}, api.ErrFloor}, {counter(5, 2, last), 3, api.Counter{}, api.ErrSpent},
		{counter(5, 2, last-1), 3, counter(2, 2, last), api.OK}, {counter(most, least, 7), most, counter(0, least, 8), api.OK},
		{counter(-2, least, 0), most, api.Counter{}, api.ErrFloor}, {counter(-1, least, 0), most, counter(least, least, 1), api.OK},
	} {
		if c, e := escrow.Debit(r.c, r.n); c != r.want || e != r.e {
			t.Errorf("Debit(%v, %d) = %v %v", r.c, r.n, c, e)
		}
	}
	for _, r := range []row{
		{counter(5, 2, 0), 3, counter(8, 2, 1), api.OK}, {counter(most, 0, 0), 1, api.Counter{}, api.ErrOver},
		{counter(5, 2, 0), 0, api.Counter{}, api.ErrArg}, {counter(5, 2, 0), -1, api.Counter{}, api.ErrArg}, {counter(5, 2, 0), least, api.Counter{}, api.ErrArg},
		{counter(most, 0, last), 1, api.Counter{}, api.ErrOver}, {counter(5, 2, last), 1, api.Counter{}, api.ErrSpent},
		{counter(0, 0, 0), most, counter(most, 0, 1), api.OK}, {counter(1, 0, 0), most, api.Counter{}, api.ErrOver},
		{counter(least, least, 0), most, counter(-1, least, 1), api.OK},
	} {
		if c, e := escrow.Credit(r.c, r.n); c != r.want || e != r.e {
			t.Errorf("Credit(%v, %d) = %v %v", r.c, r.n, c, e)
		}
	}
}

// TestChange: P4.1, a debit below 0, a credit above; of the least number 2^63.
func TestChange(t *testing.T) {
	for _, r := range []struct {
		c    api.Counter
		by   int64
		want api.Counter
		e    api.Errno
	}{
		{counter(5, 2, 0), -3, counter(2, 2, 1), api.OK}, {counter(5, 2, 0), 3, counter(8, 2, 1), api.OK}, {counter(5, 2, 0), 0, api.Counter{}, api.ErrArg},
		{counter(5, 2, 0), -4, api.Counter{}, api.ErrFloor}, {counter(most, 2, 0), 1, api.Counter{}, api.ErrOver},
		{counter(0, least, 0), least, counter(least, least, 1), api.OK}, {counter(-1, least, 0), least, api.Counter{}, api.ErrFloor},
		{counter(most, least, 3), least, counter(-1, least, 4), api.OK}, {counter(5, 2, last), -1, api.Counter{}, api.ErrSpent},
		{counter(5, 2, last), 0, api.Counter{}, api.ErrArg},
	} {
		if c, e := escrow.Change(r.c, r.by); c != r.want || e != r.e {
			t.Errorf("Change(%v, %d) = %v %v", r.c, r.by, c, e)
		}
	}
}

// TestSpare: P4.2, as a number without sign.
func TestSpare(t *testing.T) {
	for _, r := range []struct {
		c    api.Counter
		want uint64
	}{{counter(5, 2, 0), 3}, {counter(most, least, 0), math.MaxUint64}, {counter(-5, -5, last), 0}, {counter(0, least, 0), 1 << 63}} {
		if n, e := escrow.Spare(r.c); n != r.want || e != api.OK {
			t.Errorf("Spare(%v) = %d %v", r.c, n, e)
		}
	}
}

// TestRunEach: P4.2, as far as one is refused.
func TestRunEach(t *testing.T) {
	for _, r := range []struct {
		c    api.Counter
		l    []int64
		want api.Counter
		n    int
		e    api.Errno
	}{
		{counter(5, 2, 0), []int64{-2, 4, -6, 1}, counter(7, 2, 2), 2, api.ErrFloor}, {counter(5, 2, 0), nil, counter(5, 2, 0), 0, api.OK},
		{counter(5, 2, 0), []int64{1, 0, 1}, counter(6, 2, 1), 1, api.ErrArg}, {counter(5, 2, 0), []int64{most}, counter(5, 2, 0), 0, api.ErrOver},
		{counter(5, 2, last-1), []int64{1, 1}, counter(6, 2, last), 1, api.ErrSpent}, {counter(5, 2, 0), []int64{1, 2, 3}, counter(11, 2, 3), 3, api.OK},
	} {
		l := append([]int64{}, r.l...)
		c, n, e := escrow.Run(r.c, l...)
		if c != r.want || n != r.n || e != r.e {
			t.Errorf("Run(%v, %v) = %v %v %v", r.c, r.l, c, n, e)
		}
		seq := escrow.Each(r.c, l...)
		for range 2 {
			next, at := 0, r.c
			for i, c := range seq {
				want, _ := escrow.Change(at, r.l[next])
				if i != next || c != want {
					t.Errorf("Each(%v, %v): %d %v", r.c, r.l, i, c)
				}
				next, at = next+1, c
			}
			if next != r.n {
				t.Errorf("Each(%v, %v): %d", r.c, r.l, next)
			}
		}
	}
	for i, c := range escrow.Each(counter(5, 2, 0), 1, 2) {
		if i != 0 || c != counter(6, 2, 1) {
			t.Errorf("first: %d %v", i, c)
		}
		break
	}
}

// TestNeverBelow: P4.3, no counter is below its floor; a credit undoes a debit; sums are those of great numbers.
func TestNeverBelow(t *testing.T) {
	r := rand.New(rand.NewSource(3))
	pick := func() int64 {
		return []int64{0, 1, -1, least, most, least + 1, most - 1, int64(r.Uint64()), r.Int63n(20) - 10}[r.Intn(9)]
	}
	for range 50000 {
		c, by := counter(pick(), pick(), uint64(r.Intn(3))), pick()
		if escrow.Check(c) != api.OK {
			continue
		}
		sum := new(big.Int).Add(big.NewInt(c.Value), big.NewInt(by))
		want := api.OK
		switch {
		case by == 0:
			want = api.ErrArg
		case sum.Cmp(big.NewInt(c.Floor)) < 0:
			want = api.ErrFloor
		case sum.Cmp(big.NewInt(most)) > 0:
			want = api.ErrOver
		}
		d, e := escrow.Change(c, by)
		if e != want || e == api.OK && (big.NewInt(d.Value).Cmp(sum) != 0 || d.Floor != c.Floor || d.Version != c.Version+1 || d.Value < d.Floor) {
			t.Fatalf("Change(%v, %d) = %v %v", c, by, d, e)
		}
		if e == api.OK && by != least {
			if back, e := escrow.Change(d, -by); e != api.OK || back != counter(c.Value, c.Floor, c.Version+2) {
				t.Fatalf("back of %v by %d: %v %v", d, by, back, e)
			}
		}
	}
}
