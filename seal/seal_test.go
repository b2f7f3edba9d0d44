package seal_test

import (
	"bytes"
	"hash/crc32"
	"math/rand"
	"testing"

	"castellan/api"
	"castellan/octet"
	"castellan/seal"
)

// must tells a frame.
func must(t *testing.T, b []byte) []byte {
	t.Helper()
	f, e := seal.Seal(b)
	if e != api.OK {
		t.Fatalf("Seal of %d bytes: %v", len(b), e)
	}
	return f
}

// some tells bytes by chance, always the same ones.
func some(r *rand.Rand, n int) []byte {
	b := make([]byte, n)
	r.Read(b)
	return b
}

// TestSum: P2.1, the sum of all bytes, joined.
func TestSum(t *testing.T) {
	if s := seal.Sum([]byte("123456789")); s != 0xcbf43926 {
		t.Errorf("Sum = %x", s)
	}
	if seal.Sum() != 0 || seal.Sum(nil, []byte{}) != 0 {
		t.Error("the sum of nothing is not 0")
	}
	r := rand.New(rand.NewSource(1))
	for n := range 300 {
		b := some(r, n)
		cut := r.Intn(n + 1)
		if seal.Sum(b) != crc32.ChecksumIEEE(b) || seal.Sum(b[:cut], nil, b[cut:]) != seal.Sum(b) {
			t.Fatalf("Sum(%x)", b)
		}
	}
}

// TestSealOpen: P2.1, P2.3, a frame's bytes, and Open of Seal.
func TestSealOpen(t *testing.T) {
	if f := must(t, nil); !bytes.Equal(f[:1], []byte{0}) || len(f) != 5 || f[1] != 0xd2 || f[2] != 0x02 || f[3] != 0xef || f[4] != 0x8d {
		t.Errorf("Seal of nothing: %x", f)
	}
	r := rand.New(rand.NewSource(2))
	for _, n := range []int{0, 1, 5, 127, 128, 16383, 16384, api.MaxFrame} {
		b := some(r, n)
		f := must(t, b)
		head := octet.Number(uint64(n))
		s := crc32.ChecksumIEEE(append(append([]byte{}, head...), b...))
		if want := append(append(append([]byte{}, head...), b...), byte(s>>24), byte(s>>16), byte(s>>8), byte(s)); !bytes.Equal(f, want) {
			t.Errorf("Seal of %d bytes is another one", n)
		}
		if x, many, e := seal.Open(append(f, 1, 2, 3)); !bytes.Equal(x, b) || many != len(f) || e != api.OK {
			t.Errorf("Open of %d bytes: %d %v", n, many, e)
		}
	}
	if f, e := seal.Seal(make([]byte, api.MaxFrame+1)); f != nil || e != api.ErrLong {
		t.Errorf("one byte too many: %v", e)
	}
}

// TestOpenWrong: P2.1, the errors in their order.
func TestOpenWrong(t *testing.T) {
	long := append(octet.Number(api.MaxFrame+1), 1)
	edge := append(octet.Number(api.MaxFrame), 1)
	for _, c := range []struct {
		b    []byte
		want api.Errno
	}{
		{nil, api.ErrEnds}, {[]byte{0x80}, api.ErrEnds}, {[]byte{0x80, 0}, api.ErrForm}, {long, api.ErrLong}, {edge, api.ErrEnds},
		{octet.Number(1<<64 - 1), api.ErrLong}, {[]byte{0, 0, 0, 0}, api.ErrEnds}, {[]byte{0, 0, 0, 0, 0}, api.ErrSum},
		{[]byte{1, 'a', 0, 0, 0}, api.ErrEnds}, {[]byte{1, 'a', 0, 0, 0, 0, 9}, api.ErrSum},
	} {
		if x, many, e := seal.Open(c.b); len(x) != 0 || many != 0 || e != c.want {
			t.Errorf("Open(%x) = %x %d %v", c.b, x, many, e)
		}
	}
}

// TestBits: P2.3, a frame of which one bit is turned over is none.
func TestBits(t *testing.T) {
	f := must(t, []byte("castellan"))
	for i := 8; i < 8*len(f); i++ {
		g := bytes.Clone(f)
		g[i/8] ^= 1 << (i % 8)
		if x, many, e := seal.Open(g); e != api.ErrSum || x != nil || many != 0 {
			t.Errorf("bit %d: %v", i, e)
		}
	}
}

// TestFrames: P2.2, P2.3, frames one behind the other, cut anywhere.
func TestFrames(t *testing.T) {
	var all []byte
	var ends []int
	parts := [][]byte{[]byte("a"), nil, []byte("bcd"), bytes.Repeat([]byte{7}, 130)}
	for _, p := range parts {
		all = append(all, must(t, p)...)
		ends = append(ends, len(all))
	}
	for cut := 0; cut <= len(all); cut++ {
		whole, n := 0, 0
		for i, e := range ends {
			if e <= cut {
				whole, n = e, i+1
			}
		}
		if got := seal.Whole(all[:cut]); got != whole {
			t.Errorf("cut at %d: Whole %d", cut, got)
		}
		seq := seal.Frames(all[:cut])
		for range 2 {
			i, at := 0, 0
			for place, b := range seq {
				if place != at || !bytes.Equal(b, parts[i]) {
					t.Errorf("cut at %d, frame %d: %d %x", cut, i, place, b)
				}
				at = ends[i]
				i++
			}
			if i != n {
				t.Errorf("cut at %d: %d frames", cut, i)
			}
		}
	}
	bad := bytes.Clone(all)
	bad[ends[1]+2] ^= 1
	if got := seal.Whole(bad); got != ends[1] {
		t.Errorf("behind a frame that is none: %d", got)
	}
}

// TestFramesApart: P2.2, the bytes told are new memory each time; left at any time.
func TestFramesApart(t *testing.T) {
	b := append(must(t, []byte("ab")), must(t, []byte("c"))...)
	seq := seal.Frames(b)
	for range 2 {
		n := 0
		for _, x := range seq {
			if string(x) != "ab" {
				t.Errorf("told %q", x)
			}
			x[0] = 'z'
			n++
			break
		}
		if n != 1 {
			t.Errorf("left behind %d", n)
		}
	}
	f := must(t, []byte("xy"))
	x, _, _ := seal.Open(f)
	x[0] = 'q'
	if y, _, e := seal.Open(f); string(y) != "xy" || e != api.OK {
		t.Error("Open shares memory with what it is handed")
	}
}
