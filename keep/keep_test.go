package keep_test

import (
	"bytes"
	"math/rand"
	"testing"

	"castellan/api"
	"castellan/disk"
	"castellan/keep"
	"castellan/seal"
)

// open tells a new disk.
func open(t *testing.T, room int) *disk.Disk {
	t.Helper()
	d, e := disk.New(room)
	if e != api.OK {
		t.Fatal(e)
	}
	return d
}

// over tells a disk's keep.
func over(t *testing.T, d *disk.Disk) *keep.Keep {
	t.Helper()
	k, e := keep.Open(d)
	if e != api.OK || k == nil {
		t.Fatalf("Open: %v", e)
	}
	return k
}

// told is what a keep tells.
type told struct {
	snapshot []byte
	records  [][]byte
}

// tells is what a keep tells.
func tells(k *keep.Keep) told {
	x := told{snapshot: k.Snapshot()}
	for _, b := range k.Records() {
		x.records = append(x.records, b)
	}
	return x
}

// same tells whether both tell the same.
func same(a, b told) bool {
	if !bytes.Equal(a.snapshot, b.snapshot) || len(a.records) != len(b.records) {
		return false
	}
	for i := range a.records {
		if !bytes.Equal(a.records[i], b.records[i]) {
			return false
		}
	}
	return true
}

// has holds what a keep tells against what is wanted.
func has(t *testing.T, k *keep.Keep, snapshot string, records ...string) {
	t.Helper()
	size := 0
	for _, s := range append([]string{snapshot}, records...) {
		f, _ := seal.Seal([]byte(s))
		size += len(f)
	}
	if string(k.Snapshot()) != snapshot || k.Len() != len(records) || k.Size() != size {
		t.Errorf("Snapshot %q, Len %d, Size %d; not %q, %d, %d", k.Snapshot(), k.Len(), k.Size(), snapshot, len(records), size)
	}
	seq := k.Records()
	for range 2 {
		next := 0
		for n, b := range seq {
			if n != next || n >= len(records) || string(b) != records[n] {
				t.Errorf("record %d: %q", n, b)
			}
			next++
		}
		if next != len(records) {
			t.Errorf("%d records, not %d", next, len(records))
		}
	}
	for n := range seq {
		if n != 0 {
			t.Errorf("first: %d", n)
		}
		break
	}
}

// TestExample: P9.1, P9.2.
func TestExample(t *testing.T) {
	d := open(t, 60)
	k := over(t, d)
	has(t, k, "")
	for _, s := range []string{"ab", "c"} {
		if e := k.Log([]byte(s)); e != api.OK {
			t.Errorf("Log: %v", e)
		}
	}
	has(t, k, "", "ab", "c")
	if k.Size() != 18 || k.Disk() != d {
		t.Errorf("Size %d", k.Size())
	}
	if n, _ := d.Lasting(0); n != 18 {
		t.Errorf("%d bytes last", n)
	}
	if e := k.Compact([]byte("xyz")); e != api.OK || d.Current() != 1 {
		t.Errorf("Compact: %v, %d", e, d.Current())
	}
	has(t, k, "xyz")
	if k.Size() != 8 {
		t.Errorf("Size %d", k.Size())
	}
	has(t, over(t, d), "xyz")
	k.Log([]byte("d"))
	has(t, k, "xyz", "d")
	if e := k.Compact(nil); e != api.OK || d.Current() != 0 {
		t.Errorf("Compact: %v, %d", e, d.Current())
	}
	has(t, over(t, d), "")
}

// TestOpenWrong: P9.1.
func TestOpenWrong(t *testing.T) {
	for _, d := range []*disk.Disk{nil, {}} {
		if k, e := keep.Open(d); k != nil || e != api.ErrNil {
			t.Errorf("no disk: %v", e)
		}
	}
	if k, e := keep.Open(open(t, 4)); k != nil || e != api.ErrFull {
		t.Errorf("no room: %v", e)
	}
	has(t, over(t, open(t, 5)), "")
	for stop := range 2 {
		d := open(t, 60)
		d.Stop(stop)
		if k, e := keep.Open(d); k != nil || e != api.ErrStopped {
			t.Errorf("stopped behind %d acts: %v", stop, e)
		}
		d.Crash([2]int{3, 0})
		has(t, over(t, d), "")
	}
	d := open(t, 60)
	d.Stop(2)
	k := over(t, d)
	if !d.Stopped() {
		t.Error("more acts than two")
	}
	has(t, over(t, d), "") // nothing is to be done
	has(t, k, "")
}

// TestErrors: P9.1, in their order; what is told stays.
func TestErrors(t *testing.T) {
	d := open(t, 20)
	k := over(t, d)
	k.Log([]byte("a"))
	long := make([]byte, api.MaxFrame+1)
	for what, do := range map[string]func(b []byte) api.Errno{"Log": k.Log, "Compact": k.Compact} {
		if e := do(long); e != api.ErrLong {
			t.Errorf("%s too long: %v", what, e)
		}
		if e := do(make([]byte, 18)); e != api.ErrFull {
			t.Errorf("%s without room: %v", what, e)
		}
		has(t, k, "", "a")
	}
	if e := k.Log([]byte("b")); e != api.OK {
		t.Errorf("refused for its room it is broken: %v", e)
	}
	great := over(t, open(t, 1<<18))
	for _, do := range []func(b []byte) api.Errno{great.Log, great.Compact} {
		if e := do(long[1:]); e != api.OK {
			t.Errorf("as long as may be: %v", e)
		}
	}
	has(t, great, string(long[1:]))
	if e := k.Compact([]byte("sss")); e != api.OK {
		t.Errorf("Compact: %v", e)
	}
	has(t, k, "sss")
}

// TestBroken: P9.1, from the first ErrStopped on; what is told stays, whatever stands on the disk.
func TestBroken(t *testing.T) {
	for stop := range 6 {
		for _, compact := range []bool{false, true} {
			d := open(t, 90)
			k := over(t, d)
			k.Log([]byte("a"))
			d.Stop(stop)
			do := k.Log
			if compact {
				do = k.Compact
			}
			need := map[bool]int{false: 2, true: 4}[compact]
			e := do([]byte("xy"))
			if (e == api.OK) != (stop >= need) || e != api.OK && e != api.ErrStopped {
				t.Errorf("stop %d, compact %v: %v", stop, compact, e)
				continue
			}
			if e == api.OK {
				continue
			}
			has(t, k, "", "a")
			d.Stop(99)
			if e := k.Log([]byte("b")); e != api.ErrStopped {
				t.Errorf("a broken one logs: %v", e)
			}
			if e := k.Compact([]byte("b")); e != api.ErrStopped {
				t.Errorf("a broken one compacts: %v", e)
			}
			if e := k.Log(make([]byte, api.MaxFrame+1)); e != api.ErrLong {
				t.Errorf("ErrLong first: %v", e)
			}
			has(t, k, "", "a")
			d.Crash([2]int{})
			has(t, over(t, d), "", "a")
		}
	}
}

// TestNil: of no keep, and of one that no call made.
func TestNil(t *testing.T) {
	long := make([]byte, api.MaxFrame+1)
	for _, k := range []*keep.Keep{nil, {}} {
		if k.Log(long) != api.ErrNil || k.Compact(long) != api.ErrNil || k.Snapshot() != nil || k.Len() != 0 || k.Size() != 0 || k.Disk() != nil {
			t.Error("no keep does something")
		}
		for range k.Records() {
			t.Error("no keep has records")
		}
	}
}

// TestApart: what is told is new memory, what is handed in is not kept.
func TestApart(t *testing.T) {
	k := over(t, open(t, 90))
	b := []byte("abc")
	k.Compact(b)
	k.Log(b)
	b[0] = 'z'
	k.Snapshot()[1] = 'z'
	for _, x := range k.Records() {
		x[1] = 'z'
	}
	has(t, k, "abc", "abc")
}

// life does things to a keep till it is stopped, and tells what it told, and what was being done.
func life(r *rand.Rand, k *keep.Keep) (was told, doing *told) {
	was = tells(k)
	for range 12 {
		b := make([]byte, r.Intn(9))
		r.Read(b)
		next := told{snapshot: was.snapshot, records: append(append([][]byte{}, was.records...), b)}
		do := k.Log
		if r.Intn(4) == 0 {
			next = told{snapshot: b}
			do = k.Compact
		}
		switch do(b) {
		case api.OK:
			was = next
		case api.ErrStopped:
			return was, &next
		}
	}
	return was, nil
}

// TestLife: P9.3, whatever stops and crashes come between.
func TestLife(t *testing.T) {
	r := rand.New(rand.NewSource(7))
	for range 500 {
		d := open(t, 60+r.Intn(100))
		was := told{}
		var doing *told
		for range 8 {
			d.Crash([2]int{r.Intn(20), r.Intn(20)})
			d.Stop(r.Intn(30))
			k, e := keep.Open(d)
			if e != api.OK {
				continue
			}
			got := tells(k)
			if !same(got, was) && (doing == nil || !same(got, *doing)) {
				t.Fatalf("%q, neither %q nor %q", got, was, doing)
			}
			was, doing = life(r, k)
			if !same(tells(k), was) {
				t.Fatalf("%q, not %q", tells(k), was)
			}
		}
	}
}
