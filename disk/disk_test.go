package disk_test

import (
	"bytes"
	"math"
	"math/rand"
	"testing"

	"castellan/api"
	"castellan/disk"
)

// open tells a new disk.
func open(t *testing.T, room int) *disk.Disk {
	t.Helper()
	d, e := disk.New(room)
	if e != api.OK || d == nil {
		t.Fatalf("New(%d): %v", room, e)
	}
	return d
}

// has holds a file's bytes, and how many last, against what is wanted.
func has(t *testing.T, d *disk.Disk, file int, want string, lasts int) {
	t.Helper()
	b, e := d.Read(file)
	n, f := d.Lasting(file)
	if string(b) != want || e != api.OK || n != lasts || f != api.OK {
		t.Errorf("file %d: %q %v, %d last %v; not %q, %d", file, b, e, n, f, want, lasts)
	}
}

// want holds an answer against what is wanted.
func want(t *testing.T, what string, got, e api.Errno) {
	t.Helper()
	if got != e {
		t.Errorf("%s: %v, not %v", what, got, e)
	}
}

// TestNew: P7.1.
func TestNew(t *testing.T) {
	for _, room := range []int{0, -1, api.MaxRoom + 1, math.MaxInt, math.MinInt} {
		if d, e := disk.New(room); d != nil || e != api.ErrArg {
			t.Errorf("New(%d) = %v %v", room, d, e)
		}
	}
	d := open(t, 1)
	has(t, d, 0, "", 0)
	has(t, d, 1, "", 0)
	if d.Current() != 0 || d.Stopped() {
		t.Error("a new disk is another one")
	}
	great := open(t, api.MaxRoom)
	want(t, "all room", great.Append(1, make([]byte, api.MaxRoom)), api.OK)
	want(t, "one more", great.Append(1, []byte{1}), api.ErrFull)
	want(t, "the other file", great.Append(0, []byte{1}), api.OK)
}

// TestActs: P7.1, P7.2, the example, and the edges.
func TestActs(t *testing.T) {
	d := open(t, 4)
	want(t, "Append", d.Append(0, []byte("ab")), api.OK)
	want(t, "Sync", d.Sync(0), api.OK)
	want(t, "Append", d.Append(0, []byte("cd")), api.OK)
	want(t, "full", d.Append(0, []byte("e")), api.ErrFull)
	want(t, "nothing, where it is full", d.Append(0, nil), api.OK)
	has(t, d, 0, "abcd", 2)
	want(t, "Crash", d.Crash([2]int{1, 0}), api.OK)
	has(t, d, 0, "abc", 3)
	want(t, "Cut", d.Cut(0, 3), api.OK)
	has(t, d, 0, "abc", 3)
	want(t, "Append", d.Append(0, []byte("x")), api.OK)
	want(t, "Cut", d.Cut(0, 4), api.OK)
	has(t, d, 0, "abcx", 3)
	want(t, "Cut", d.Cut(0, 1), api.OK)
	has(t, d, 0, "a", 1)
	want(t, "behind a cut", d.Append(0, []byte("yz")), api.OK)
	has(t, d, 0, "ayz", 1)
	want(t, "Cut", d.Cut(0, 0), api.OK)
	has(t, d, 0, "", 0)
	has(t, d, 1, "", 0)
	want(t, "Switch", d.Switch(), api.OK)
	if d.Current() != 1 {
		t.Error("not switched")
	}
	want(t, "Switch", d.Switch(), api.OK)
	if d.Current() != 0 {
		t.Error("not switched back")
	}
}

// TestWrong: P7.1 to P7.3, the errors in their order.
func TestWrong(t *testing.T) {
	d := open(t, 4)
	d.Append(0, []byte("ab"))
	was := d.Copy()
	for _, file := range []int{-1, 2, math.MaxInt, math.MinInt} {
		want(t, "Append", d.Append(file, make([]byte, 9)), api.ErrArg)
		want(t, "Sync", d.Sync(file), api.ErrArg)
		want(t, "Cut", d.Cut(file, 99), api.ErrArg)
		if b, e := d.Read(file); b != nil || e != api.ErrArg {
			t.Errorf("Read(%d): %v", file, e)
		}
		if n, e := d.Lasting(file); n != 0 || e != api.ErrArg {
			t.Errorf("Lasting(%d): %v", file, e)
		}
		for range d.Bytes(file) {
			t.Errorf("file %d has bytes", file)
		}
	}
	want(t, "Cut", d.Cut(0, -1), api.ErrArg)
	want(t, "Cut", d.Cut(0, 3), api.ErrRange)
	want(t, "Cut", d.Cut(0, math.MaxInt), api.ErrRange)
	want(t, "Append", d.Append(0, []byte("xyz")), api.ErrFull)
	want(t, "Stop", d.Stop(-1), api.ErrArg)
	want(t, "Crash", d.Crash([2]int{-1, 0}), api.ErrArg)
	want(t, "Crash", d.Crash([2]int{0, math.MinInt}), api.ErrArg)
	if !disk.Same(d, was) {
		t.Error("a refusal changed something")
	}
	d.Stop(0)
	want(t, "stopped, ErrArg first", d.Append(7, nil), api.ErrArg)
	want(t, "stopped, ErrRange first", d.Cut(0, 3), api.ErrRange)
	want(t, "stopped, ErrFull first", d.Append(0, []byte("xyz")), api.ErrFull)
	want(t, "stopped", d.Append(0, []byte("x")), api.ErrStopped)
	want(t, "stopped", d.Cut(0, 1), api.ErrStopped)
	want(t, "stopped", d.Sync(0), api.ErrStopped)
	want(t, "stopped", d.Switch(), api.ErrStopped)
	has(t, d, 0, "ab", 0)
}

// TestStop: P7.3, behind so many acts that are not refused for their arguments.
func TestStop(t *testing.T) {
	d := open(t, 4)
	want(t, "Stop", d.Stop(1), api.OK)
	if d.Stopped() {
		t.Error("stopped ahead of its time")
	}
	want(t, "refused", d.Append(5, nil), api.ErrArg)
	want(t, "refused", d.Cut(0, 1), api.ErrRange)
	want(t, "refused", d.Append(0, make([]byte, 5)), api.ErrFull)
	if d.Stopped() {
		t.Error("a refused act was counted")
	}
	want(t, "Switch", d.Switch(), api.OK)
	if !d.Stopped() {
		t.Error("not stopped")
	}
	want(t, "Append", d.Append(1, []byte("x")), api.ErrStopped)
	if d.Current() != 1 {
		t.Error("not switched")
	}
	has(t, d, 1, "", 0)
	want(t, "Stop in place of another one", d.Stop(2), api.OK)
	if d.Stopped() {
		t.Error("the stop that was reached is there still")
	}
	want(t, "Append", d.Append(1, []byte("x")), api.OK)
	want(t, "Sync", d.Sync(1), api.OK)
	want(t, "Sync", d.Sync(1), api.ErrStopped)
	want(t, "Crash", d.Crash([2]int{}), api.OK)
	if d.Stopped() {
		t.Error("stopped behind a crash")
	}
	for range 20 {
		want(t, "Sync", d.Sync(1), api.OK)
	}
	d.Stop(3)
	d.Crash([2]int{math.MaxInt, math.MaxInt})
	for range 20 {
		want(t, "Switch", d.Switch(), api.OK)
	}
	has(t, d, 1, "x", 1)
}

// TestNil: of no disk, and of one that no call made.
func TestNil(t *testing.T) {
	for _, d := range []*disk.Disk{nil, {}} {
		b, e1 := d.Read(0)
		n, e2 := d.Lasting(9)
		for i, e := range []api.Errno{e1, e2, d.Append(9, nil), d.Sync(0), d.Cut(-1, -1), d.Switch(), d.Stop(-1), d.Crash([2]int{-1, 0})} {
			want(t, string(rune('a'+i)), e, api.ErrNil)
		}
		if b != nil || n != 0 || d.Current() != 0 || d.Stopped() || d.Copy() != nil {
			t.Error("no disk tells something")
		}
		for range d.Bytes(0) {
			t.Error("no disk has bytes")
		}
		if !disk.Same(d, nil) || !disk.Same(nil, d) || disk.Same(d, open(t, 1)) || disk.Same(open(t, 1), d) {
			t.Error("a nil one is like a nil one alone")
		}
	}
}

// TestBytes: P7.2, each with its place, left at any time, gone over again; answers are new memory.
func TestBytes(t *testing.T) {
	d := open(t, 9)
	in := []byte("abc")
	d.Append(1, in)
	in[0] = 'z'
	out, _ := d.Read(1)
	out[1] = 'z'
	seq := d.Bytes(1)
	for range 2 {
		var got []byte
		for i, b := range seq {
			if i != len(got) {
				t.Errorf("place %d", i)
			}
			got = append(got, b)
		}
		if string(got) != "abc" {
			t.Errorf("Bytes: %q", got)
		}
	}
	for i := range seq {
		if i == 1 {
			break
		}
	}
	d.Stop(0)
	if b, e := d.Read(1); string(b) != "abc" || e != api.OK {
		t.Errorf("of one that has stopped: %q %v", b, e)
	}
}

// TestCopySame: P7.3.
func TestCopySame(t *testing.T) {
	made := func() *disk.Disk {
		d := open(t, 9)
		d.Append(0, []byte("ab"))
		d.Sync(0)
		d.Append(0, []byte("c"))
		return d
	}
	d := made()
	for i, change := range []func(*disk.Disk){
		func(x *disk.Disk) { x.Append(0, []byte("d")) }, func(x *disk.Disk) { x.Append(1, []byte("d")) }, func(x *disk.Disk) { x.Sync(0) }, func(x *disk.Disk) { x.Switch() },
		func(x *disk.Disk) { x.Stop(4) }, func(x *disk.Disk) { x.Cut(0, 2) }, func(x *disk.Disk) { x.Cut(0, 2); x.Append(0, []byte("x")) },
	} {
		c := d.Copy()
		if !disk.Same(c, d) || !disk.Same(d, c) {
			t.Errorf("%d: a copy is another one", i)
		}
		change(c)
		if disk.Same(c, d) || disk.Same(d, c) || !disk.Same(d, made()) {
			t.Errorf("%d: a copy doesn't go on apart, or another one is the same", i)
		}
	}
	stopped := d.Copy()
	stopped.Stop(0)
	stopped.Crash([2]int{9, 9})
	kept := d.Copy()
	kept.Crash([2]int{9, 9})
	if !disk.Same(stopped, kept) {
		t.Error("behind a crash a stop is there still")
	}
	if disk.Same(open(t, 1), open(t, 2)) {
		t.Error("another room is the same")
	}
}

// TestLasts: P7.4, what lasts is there behind each crash, till it is cut.
func TestLasts(t *testing.T) {
	r := rand.New(rand.NewSource(5))
	for range 300 {
		d := open(t, 60)
		var files [2][]byte
		var lasts [2]int
		for range 60 {
			f, b := r.Intn(2), make([]byte, r.Intn(9))
			r.Read(b)
			switch r.Intn(5) {
			case 0, 1:
				if d.Append(f, b) == api.OK {
					files[f] = append(files[f], b...)
				} else if len(files[f])+len(b) <= 60 {
					t.Fatal("refused")
				}
			case 2:
				d.Sync(f)
				lasts[f] = len(files[f])
			case 3:
				n := r.Intn(len(files[f]) + 1)
				d.Cut(f, n)
				files[f], lasts[f] = files[f][:n], min(lasts[f], n)
			case 4:
				keep := [2]int{r.Intn(9), []int{0, math.MaxInt}[r.Intn(2)]}
				d.Crash(keep)
				for i := range files {
					files[i] = files[i][:min(len(files[i]), max(lasts[i], lasts[i]+min(keep[i], 1000)))]
					lasts[i] = len(files[i])
				}
			}
			for i := range files {
				b, _ := d.Read(i)
				if n, _ := d.Lasting(i); !bytes.Equal(b, files[i]) || n != lasts[i] {
					t.Fatalf("file %d: %x %d, not %x %d", i, b, n, files[i], lasts[i])
				}
			}
		}
	}
}
