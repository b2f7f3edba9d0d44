package spool_test

import (
	"bytes"
	"math"
	"testing"

	"castellan/api"
	"castellan/octet"
	"castellan/refuse"
	"castellan/spool"
)

// TestThereAndBack: what is laid down is read.
func TestThereAndBack(t *testing.T) {
	var s spool.Spool
	s.Put(5, 300)
	s.PutSigned(-1, math.MinInt64)
	s.PutTruth(true)
	s.PutTruth(false)
	if want := []byte{5, 0xac, 2, 1, 0xff, 0xff, 0xff, 0xff, 0xff, 0xff, 0xff, 0xff, 0xff, 1, 1, 0}; !bytes.Equal(s.Bytes, want) {
		t.Errorf("%x, not %x", s.Bytes, want)
	}
	if s.Number() != 5 || s.Number() != 300 || s.Signed() != -1 || s.Signed() != math.MinInt64 || !s.Truth() || s.Truth() || s.At != len(s.Bytes) {
		t.Errorf("read as far as %d", s.At)
	}
}

// TestWrong: what can't be read is refused, as layer 1 says, or as is said.
func TestWrong(t *testing.T) {
	for _, c := range []struct {
		s    spool.Spool
		want api.Errno
	}{{spool.Spool{}, api.ErrEnds}, {spool.Spool{Bytes: []byte{0x80, 0}}, api.ErrForm}, {spool.Spool{Why: api.ErrToken}, api.ErrToken}, {spool.Spool{Bytes: []byte{2}, Why: api.ErrToken}, api.ErrToken}} {
		if x, e := refuse.Face(func() bool { return c.s.Truth() }); x || e != c.want || c.s.At > 1 {
			t.Errorf("%v: %v", c.s, e)
		}
	}
	great := spool.Spool{Bytes: octet.Number(1 << 63)}
	if n := great.Number(); n != -1 {
		t.Errorf("a great one: %d", n)
	}
}
