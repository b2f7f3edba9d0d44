package octet_test

import (
	"bytes"
	"math"
	"math/rand"
	"slices"
	"testing"

	"castellan/api"
	"castellan/octet"
)

// edges are numbers about each change of width.
func edges() []uint64 {
	l := []uint64{0, 1, 2, 300, math.MaxUint64, math.MaxUint64 - 1}
	for i := 7; i < 64; i += 7 {
		l = append(l, 1<<i-1, 1<<i, 1<<i+1)
	}
	return l
}

// TestNumberBytes: P1.1, the bytes of numbers.
func TestNumberBytes(t *testing.T) {
	for _, c := range []struct {
		n    uint64
		want string
	}{
		{0, "\x00"}, {1, "\x01"}, {127, "\x7f"}, {128, "\x80\x01"}, {300, "\xac\x02"}, {16383, "\xff\x7f"}, {16384, "\x80\x80\x01"},
		{1<<63 - 1, "\xff\xff\xff\xff\xff\xff\xff\xff\x7f"}, {1 << 63, "\x80\x80\x80\x80\x80\x80\x80\x80\x80\x01"},
		{math.MaxUint64, "\xff\xff\xff\xff\xff\xff\xff\xff\xff\x01"},
	} {
		if got := octet.Number(c.n); string(got) != c.want {
			t.Errorf("Number(%d) = %x", c.n, got)
		}
	}
	for _, n := range edges() {
		b := octet.Number(n)
		if got, many, e := octet.ReadNumber(append(b, 0xff, 0)); got != n || many != len(b) || e != api.OK {
			t.Errorf("ReadNumber(%x) = %d %d %v", b, got, many, e)
		}
	}
}

// TestReadNumberWrong: P1.1, what is refused, and where.
func TestReadNumberWrong(t *testing.T) {
	for _, c := range []struct {
		b    string
		want api.Errno
	}{
		{"", api.ErrEnds}, {"\x80", api.ErrEnds}, {"\xff\xff", api.ErrEnds}, {"\x80\x80\x80\x80\x80\x80\x80\x80\x80", api.ErrEnds},
		{"\x80\x00", api.ErrForm}, {"\xff\x00\x01", api.ErrForm}, {"\x80\x80\x00", api.ErrForm},
		{"\x80\x80\x80\x80\x80\x80\x80\x80\x80\x00", api.ErrForm}, {"\x80\x80\x80\x80\x80\x80\x80\x80\x80\x02", api.ErrForm},
		{"\xff\xff\xff\xff\xff\xff\xff\xff\xff\x80", api.ErrForm}, {"\xff\xff\xff\xff\xff\xff\xff\xff\xff\x81\x00", api.ErrForm},
	} {
		if n, many, e := octet.ReadNumber([]byte(c.b)); n != 0 || many != 0 || e != c.want {
			t.Errorf("ReadNumber(%x) = %d %d %v", c.b, n, many, e)
		}
		if n, many, e := octet.ReadSigned([]byte(c.b)); n != 0 || many != 0 || e != c.want {
			t.Errorf("ReadSigned(%x) = %d %d %v", c.b, n, many, e)
		}
	}
}

// TestSigned: P1.1, signed numbers.
func TestSigned(t *testing.T) {
	for _, c := range []struct {
		n    int64
		want uint64
	}{{0, 0}, {-1, 1}, {1, 2}, {-2, 3}, {2, 4}, {math.MaxInt64, math.MaxUint64 - 1}, {math.MinInt64, math.MaxUint64}} {
		b := octet.Signed(c.n)
		if !bytes.Equal(b, octet.Number(c.want)) {
			t.Errorf("Signed(%d) = %x", c.n, b)
		}
		if n, many, e := octet.ReadSigned(append(b, 7)); n != c.n || many != len(b) || e != api.OK {
			t.Errorf("ReadSigned(%x) = %d %d %v", b, n, many, e)
		}
	}
}

// TestText: P1.2, texts.
func TestText(t *testing.T) {
	long := string(bytes.Repeat([]byte{0xfe}, 200))
	for _, s := range []string{"", "a", "\xff\x00", long} {
		b := octet.Text(s)
		if want := string(octet.Number(uint64(len(s)))) + s; string(b) != want {
			t.Errorf("Text(%q) = %x", s, b)
		}
		for _, more := range [][]byte{nil, {'z'}} {
			if got, many, e := octet.ReadText(append(b, more...)); got != s || many != len(b) || e != api.OK {
				t.Errorf("ReadText(%x) = %q %d %v", b, got, many, e)
			}
		}
	}
	for _, c := range []struct {
		b    string
		want api.Errno
	}{
		{"", api.ErrEnds}, {"\x03a", api.ErrEnds}, {"\x80", api.ErrEnds}, {"\x80\x00abc", api.ErrForm},
		{"\xff\xff\xff\xff\xff\xff\xff\xff\xff\x01a", api.ErrEnds}, {"\x80\x80\x80\x80\x80\x80\x80\x80\x80\x01a", api.ErrEnds},
	} {
		if s, many, e := octet.ReadText([]byte(c.b)); s != "" || many != 0 || e != c.want {
			t.Errorf("ReadText(%x) = %q %d %v", c.b, s, many, e)
		}
	}
}

// TestList: P1.2, lists.
func TestList(t *testing.T) {
	if b := octet.List("ab", ""); string(b) != "\x02\x02ab\x00" {
		t.Errorf("List = %x", b)
	}
	if b := octet.List(); string(b) != "\x00" {
		t.Errorf("List() = %x", b)
	}
	for _, c := range []struct {
		b    string
		most int
		want api.Errno
	}{
		{"\x02\x01a\x01b", 1, api.ErrLong}, {"\x01", 0, api.ErrLong}, {"\x01\x01a", -5, api.ErrLong}, {"\x02", 1, api.ErrLong},
		{"", 9, api.ErrEnds}, {"\x01", 9, api.ErrEnds}, {"\x02\x01a\x02b", 9, api.ErrEnds}, {"\x81\x00", 0, api.ErrForm},
		{"\x02\x01a\x80\x00", 9, api.ErrForm}, {"\xff\xff\xff\xff\xff\xff\xff\xff\xff\x01", math.MaxInt, api.ErrLong},
		{"\xff\xff\xff\xff\xff\xff\xff\xff\x7f\x00", math.MaxInt, api.ErrEnds},
	} {
		if l, many, e := octet.ReadList([]byte(c.b), c.most); len(l) != 0 || many != 0 || e != c.want {
			t.Errorf("ReadList(%x, %d) = %q %d %v", c.b, c.most, l, many, e)
		}
	}
	for _, l := range [][]string{nil, {""}, {"ab", ""}, {"x", "yy", "zzz"}} {
		b := octet.List(l...)
		if got, many, e := octet.ReadList(append(b, 1, 2), len(l)); !slices.Equal(got, l) || many != len(b) || e != api.OK {
			t.Errorf("ReadList(%x) = %q %d %v", b, got, many, e)
		}
	}
	if _, _, e := octet.ReadList([]byte{0}, -9); e != api.OK {
		t.Errorf("no text, bound below 0: %v", e)
	}
}

// TestNumbers: P1.3, each with its place, left at any time, gone over again.
func TestNumbers(t *testing.T) {
	b := slices.Concat(octet.Number(5), octet.Number(300), octet.Number(0), []byte{0x80, 0x00}, octet.Number(7))
	seq := octet.Numbers(b)
	for range 2 {
		var at []int
		var ns []uint64
		for i, n := range seq {
			at, ns = append(at, i), append(ns, n)
		}
		if !slices.Equal(at, []int{0, 1, 3}) || !slices.Equal(ns, []uint64{5, 300, 0}) {
			t.Errorf("Numbers: %v %v", at, ns)
		}
	}
	for i, n := range seq {
		if i != 0 || n != 5 {
			t.Errorf("first: %d %d", i, n)
		}
		break
	}
	for range octet.Numbers(nil) {
		t.Error("a number of nothing")
	}
}

// TestPrefix: P1.4, no number's bytes begin another one's, and each way of telling is read back.
func TestPrefix(t *testing.T) {
	l := edges()
	for _, a := range l {
		for _, b := range l {
			if a != b && bytes.HasPrefix(octet.Number(a), octet.Number(b)) {
				t.Errorf("%d begins with %d", a, b)
			}
		}
	}
	r := rand.New(rand.NewSource(1))
	for range 20000 {
		b := make([]byte, r.Intn(13))
		for i := range b {
			b[i] = []byte{0, 1, 2, 0x7f, 0x80, 0x81, 0xff, byte(r.Intn(256))}[r.Intn(8)]
		}
		n, many, e := octet.ReadNumber(b)
		if e == api.OK && !bytes.Equal(octet.Number(n), b[:many]) {
			t.Fatalf("%x read as %d", b, n)
		}
		if l, many, e := octet.ReadList(b, 50); e == api.OK && !bytes.Equal(octet.List(l...), b[:many]) {
			t.Fatalf("%x read as %q", b, l)
		}
	}
}

// TestNewMemory: an answer shares nothing with what was handed in, and leaves the room behind it alone.
func TestNewMemory(t *testing.T) {
	whole := []byte{1, 2, 3, 4}
	octet.ReadNumber(whole[:1])
	for range octet.Numbers(whole[:2]) {
	}
	if !bytes.Equal(whole, []byte{1, 2, 3, 4}) {
		t.Errorf("changed: %x", whole)
	}
	a, b := octet.Number(300), octet.Number(300)
	a[0] = 0
	if b[0] != 0xac {
		t.Error("two answers share memory")
	}
}
