package journal_test

import (
	"bytes"
	"math"
	"math/rand"
	"testing"

	"castellan/api"
	"castellan/disk"
	"castellan/journal"
	"castellan/seal"
)

// open tells a new disk.
func open(t *testing.T, room int) *disk.Disk {
	t.Helper()
	d, e := disk.New(room)
	if e != api.OK {
		t.Fatal(e)
	}
	return d
}

// over tells the journal of a file.
func over(t *testing.T, d *disk.Disk, file int) *journal.Journal {
	t.Helper()
	j, e := journal.Open(d, file)
	if e != api.OK || j == nil {
		t.Fatalf("Open: %v", e)
	}
	return j
}

// has holds a journal's records against what is wanted.
func has(t *testing.T, j *journal.Journal, want ...string) {
	t.Helper()
	size := 0
	for _, s := range want {
		f, _ := seal.Seal([]byte(s))
		size += len(f)
	}
	if j.Len() != len(want) || j.Size() != size {
		t.Errorf("Len %d, Size %d; not %d, %d", j.Len(), j.Size(), len(want), size)
	}
	seq := j.Records()
	for range 2 {
		next := 0
		for n, b := range seq {
			if n != next || n >= len(want) || string(b) != want[n] {
				t.Errorf("record %d: %q", n, b)
			}
			next++
		}
		if next != len(want) {
			t.Errorf("%d records, not %d", next, len(want))
		}
	}
}

// TestExample: P8.1, P8.2.
func TestExample(t *testing.T) {
	d := open(t, 40)
	j := over(t, d, 0)
	for _, s := range []string{"ab", "c"} {
		if e := j.Log([]byte(s)); e != api.OK {
			t.Errorf("Log: %v", e)
		}
	}
	has(t, j, "ab", "c")
	if j.Size() != 13 || j.File() != 0 {
		t.Errorf("Size %d", j.Size())
	}
	if n, _ := d.Lasting(0); n != 0 {
		t.Errorf("logging lets %d bytes last", n)
	}
	d.Crash([2]int{8, 0})
	j = over(t, d, 0)
	has(t, j, "ab")
	if b, _ := d.Read(0); len(b) != 7 {
		t.Errorf("not cut: %d bytes", len(b))
	}
	if e := j.Log(make([]byte, 28)); e != api.OK {
		t.Errorf("Log: %v", e)
	}
	if e := j.Log(make([]byte, 32)); e != api.ErrFull {
		t.Errorf("Log: %v", e)
	}
	has(t, j, "ab", string(make([]byte, 28)))
	if e := j.Sync(); e != api.OK {
		t.Errorf("Sync: %v", e)
	}
	if n, _ := d.Lasting(0); n != j.Size() {
		t.Errorf("Sync lets %d bytes last", n)
	}
}

// TestOpen: P8.1, where it is cut, and what is refused.
func TestOpen(t *testing.T) {
	for _, file := range []int{-1, 2, math.MaxInt} {
		if j, e := journal.Open(open(t, 9), file); j != nil || e != api.ErrArg {
			t.Errorf("Open of file %d: %v", file, e)
		}
	}
	for _, d := range []*disk.Disk{nil, {}} {
		for _, file := range []int{0, 7} {
			if j, e := journal.Open(d, file); j != nil || e != api.ErrNil {
				t.Errorf("Open of no disk: %v", e)
			}
		}
	}
	d := open(t, 90)
	f, _ := seal.Seal([]byte("ok"))
	d.Append(1, f)
	d.Append(1, []byte{9, 9})
	d.Append(1, f)
	d.Stop(0)
	if j, e := journal.Open(d, 1); j != nil || e != api.ErrStopped {
		t.Errorf("a cut that is stopped: %v", e)
	}
	if b, _ := d.Read(1); len(b) != 2*len(f)+2 {
		t.Error("it cut, where it was stopped")
	}
	d.Stop(1)
	j := over(t, d, 1)
	has(t, j, "ok")
	if j.File() != 1 || !d.Stopped() {
		t.Errorf("File %d", j.File())
	}
	has(t, over(t, d, 1), "ok") // nothing is to be cut: nothing is stopped
}

// TestLog: P8.1, the errors in their order.
func TestLog(t *testing.T) {
	d := open(t, 20)
	j := over(t, d, 0)
	j.Log([]byte("a"))
	if e := j.Log(make([]byte, api.MaxFrame+1)); e != api.ErrLong {
		t.Errorf("too long: %v", e)
	}
	d.Stop(1)
	if e := j.Log(make([]byte, 20)); e != api.ErrFull {
		t.Errorf("full: %v", e)
	}
	if e := j.Log([]byte("b")); e != api.OK {
		t.Errorf("Log: %v", e)
	}
	for _, e := range []api.Errno{j.Log([]byte("c")), j.Sync()} {
		if e != api.ErrStopped {
			t.Errorf("stopped: %v", e)
		}
	}
	if e := j.Log(make([]byte, 20)); e != api.ErrFull {
		t.Errorf("full, stopped: %v", e)
	}
	if e := j.Log(make([]byte, api.MaxFrame+1)); e != api.ErrLong {
		t.Errorf("too long, stopped: %v", e)
	}
	has(t, j, "a", "b")
	great := over(t, open(t, api.MaxRoom), 1)
	long := bytes.Repeat([]byte("x"), api.MaxFrame)
	if e := great.Log(long); e != api.OK {
		t.Errorf("as long as may be: %v", e)
	}
	great.Log(nil)
	has(t, great, string(long), "")
}

// TestNil: of no journal, and of one that no call made.
func TestNil(t *testing.T) {
	for _, j := range []*journal.Journal{nil, {}} {
		if j.Log(make([]byte, api.MaxFrame+1)) != api.ErrNil || j.Sync() != api.ErrNil || j.Len() != 0 || j.Size() != 0 || j.File() != 0 {
			t.Error("no journal does something")
		}
		for range j.Records() {
			t.Error("no journal has records")
		}
	}
}

// TestRecordsApart: P8.2, new memory each time; left at any time; what is handed in is not kept.
func TestRecordsApart(t *testing.T) {
	j := over(t, open(t, 90), 0)
	b := []byte("ab")
	j.Log(b)
	b[0] = 'z'
	j.Log([]byte("c"))
	seq := j.Records()
	for range 2 {
		for n, x := range seq {
			if n != 0 || string(x) != "ab" {
				t.Errorf("%d: %q", n, x)
			}
			x[0] = 'q'
			break
		}
	}
	has(t, j, "ab", "c")
}

// TestCrash: P8.3, behind a crash the first so many, with all that were synced.
func TestCrash(t *testing.T) {
	r := rand.New(rand.NewSource(6))
	for range 400 {
		d := open(t, 2000)
		var had [][]byte
		for range 6 {
			j := over(t, d, 1)
			if j.Len() != len(had) {
				t.Fatalf("%d records, not %d", j.Len(), len(had))
			}
			synced := len(had)
			for range r.Intn(6) {
				b := make([]byte, r.Intn(12))
				r.Read(b)
				if j.Log(b) == api.OK {
					had = append(had, b)
				}
				if r.Intn(3) == 0 && j.Sync() == api.OK {
					synced = len(had)
				}
			}
			d.Crash([2]int{0, []int{r.Intn(60), math.MaxInt, 0}[r.Intn(3)]})
			j = over(t, d, 1)
			n := j.Len()
			if n < synced || n > len(had) {
				t.Fatalf("%d records, of %d, %d of them synced", n, len(had), synced)
			}
			for i, b := range j.Records() {
				if !bytes.Equal(b, had[i]) {
					t.Fatalf("record %d: %x, not %x", i, b, had[i])
				}
			}
			had = had[:n]
		}
	}
}
