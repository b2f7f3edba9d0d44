package call_test

import (
	"bytes"
	"math"
	"math/rand"
	"slices"
	"testing"

	"castellan/api"
	"castellan/call"
	"castellan/octet"
)

var two = api.Shape{Nodes: 2, Locks: 2, Slots: 2}

var wrongShapes = []api.Shape{{}, {Nodes: 2, Locks: 2}, {Nodes: 65, Locks: 2, Slots: 2}, {Nodes: 2, Locks: -1, Slots: 2}}

// right are asks of the shape two, at the bounds too, and their bytes.
func right() map[string]api.Ask {
	return map[string]api.Ask{
		"\x01\x01\x03\x02\x09":                                     {Kind: api.AskAcquire, Lock: 1, Mode: api.ModeS, Prio: 2, Ticks: 9},
		"\x01\x00\x01\x00\x00":                                     {Kind: api.AskAcquire, Mode: api.ModeIS},
		"\x01\x00\x05\x03\x80\x80\x80\x80\x80\x20":                 {Kind: api.AskAcquire, Mode: api.ModeX, Prio: 3, Ticks: api.MaxTick},
		"\x02\x01\x05\x03":                                         {Kind: api.AskTry, Lock: 1, Mode: api.ModeX, Prio: 3},
		"\x03\x01\x01\x05":                                         {Kind: api.AskCancel, Lock: 1, Slot: 1, Use: 5},
		"\x04\x00\x00\x01":                                         {Kind: api.AskRelease, Use: 1},
		"\x05\x00\x01\x80\x80\x80\x80\x80\x20":                     {Kind: api.AskPoll, Slot: 1, Use: api.MaxUse},
		"\x06\x00\x00\x03":                                         {Kind: api.AskRead, Use: 3},
		"\x07\x00\x01\x03\x03":                                     {Kind: api.AskChange, Slot: 1, Use: 3, By: -2},
		"\x07\x00\x01\x03\xff\xff\xff\xff\xff\xff\xff\xff\xff\x01": {Kind: api.AskChange, Slot: 1, Use: 3, By: math.MinInt64},
	}
}

// wrong are asks of the shape two that may not be.
func wrong() []api.Ask {
	l := []api.Ask{{}, {Kind: 8}, {Kind: -1}, {Kind: math.MaxInt}}
	changes := []func(*api.Ask){
		func(a *api.Ask) { a.Lock = -1 }, func(a *api.Ask) { a.Lock = 2 }, func(a *api.Ask) { a.Mode = -1 }, func(a *api.Ask) { a.Mode = 6 }, func(a *api.Ask) { a.Prio = -1 }, func(a *api.Ask) { a.Prio = 4 }, func(a *api.Ask) { a.Ticks = -1 }, func(a *api.Ask) { a.Ticks = api.MaxTick + 1 },
		func(a *api.Ask) { a.Slot = -1 }, func(a *api.Ask) { a.Slot = 2 }, func(a *api.Ask) { a.Use = -1 }, func(a *api.Ask) { a.Use = api.MaxUse + 1 },
	}
	for _, a := range right() {
		for _, change := range changes {
			x := a
			change(&x)
			l = append(l, x)
		}
		x, y := a, a
		if a.Kind <= api.AskTry {
			x.Mode = 0
			y.Use = 1
			z := a
			z.Slot = 1
			l = append(l, z)
		} else {
			x.Use = 0
			y.Mode = api.ModeS
			z, v := a, a
			z.Prio, v.Ticks = 1, 1
			l = append(l, z, v)
		}
		l = append(l, x, y)
		z := a
		if a.Kind == api.AskChange {
			z.By = 0
		} else {
			z.By = 1
		}
		l = append(l, z)
		if a.Kind == api.AskTry {
			v := a
			v.Ticks = 1
			l = append(l, v)
		}
	}
	return l
}

// TestAskBytes: P19.1, the bytes, there and back.
func TestAskBytes(t *testing.T) {
	for b, a := range right() {
		if e := call.Check(two, a); e != api.OK {
			t.Errorf("Check(%v): %v", a, e)
		}
		if got, e := call.Bytes(two, a); string(got) != b || e != api.OK {
			t.Errorf("Bytes(%v) = %x %v", a, got, e)
		}
		if x, many, e := call.Read(two, []byte(b+"\x00\xff")); x != a || many != len(b) || e != api.OK {
			t.Errorf("Read(%x) = %v %d %v", b, x, many, e)
		}
		for cut := range b {
			if x, many, e := call.Read(two, []byte(b[:cut])); x != (api.Ask{}) || many != 0 || e != api.ErrEnds {
				t.Errorf("Read(%x) = %v %d %v", b[:cut], x, many, e)
			}
		}
		for _, s := range wrongShapes {
			got, e1 := call.Bytes(s, a)
			x, many, e2 := call.Read(s, []byte(b))
			if _, _, e := call.Read(s, nil); e != api.ErrArg {
				t.Errorf("%v, ErrArg first: %v", s, e)
			}
			if call.Check(s, a) != api.ErrArg || e1 != api.ErrArg || e2 != api.ErrArg || got != nil || many != 0 || x != (api.Ask{}) {
				t.Errorf("%v: %v %v", s, e1, e2)
			}
		}
	}
	for _, a := range wrong() {
		if b, e := call.Bytes(two, a); b != nil || e != api.ErrArg || call.Check(two, a) != api.ErrArg {
			t.Errorf("Bytes(%v) = %x %v", a, b, e)
		}
	}
}

// TestReadWrong: P19.1, the errors, number by number; a kind that is none at once.
func TestReadWrong(t *testing.T) {
	for b, want := range map[string]api.Errno{
		"": api.ErrEnds, "\x00": api.ErrAsk, "\x08": api.ErrAsk, "\x00\x80\x00": api.ErrAsk, "\x80\x00": api.ErrForm, "\xff\xff\xff\xff\xff\xff\xff\xff\xff\x01": api.ErrAsk, "\x81\x80\x80\x80\x80\x80\x80\x80\x80\x01": api.ErrAsk,
		"\x03\x00\x00": api.ErrEnds, "\x03\x02\x00": api.ErrEnds, "\x03\x02\x00\x01": api.ErrAsk, "\x03\x02\x80\x00": api.ErrForm, "\x03\x00\x02\x01": api.ErrAsk, "\x03\x00\x00\x00": api.ErrAsk,
		"\x01\x00\x00\x00\x00": api.ErrAsk, "\x01\x00\x06\x00\x00": api.ErrAsk, "\x01\x00\x01\x04\x00": api.ErrAsk, "\x01\x00\x01\x00\x81\x80\x80\x80\x80\x20": api.ErrAsk, "\x07\x00\x00\x01\x00": api.ErrAsk, "\x07\x00\x00\x01": api.ErrEnds,
		"\x05\x00\x00\xff\xff\xff\xff\xff\xff\xff\xff\xff\x01": api.ErrAsk,
	} {
		if a, many, e := call.Read(two, []byte(b)); a != (api.Ask{}) || many != 0 || e != want {
			t.Errorf("Read(%x) = %v %d %v", b, a, many, e)
		}
	}
}

// TestAnswers: P19.2.
func TestAnswers(t *testing.T) {
	for b, a := range map[string]api.Answer{
		"\x00\x00\x00\x00\x00": {}, "\xe7\x07\x00\x00\x00\x00": {Errno: 999}, "\x00\x01\x03\x02\x05": {Slot: 1, Use: 3, State: api.StateHeld, Value: -3}, "\x02\x00\x01\x05\x02": {Errno: 2, Use: 1, State: api.StateLate, Value: 1},
		"\x00\x00\x80\x80\x80\x80\x80\x20\x01\x00": {Use: api.MaxUse, State: api.StatePending}, "\x00\x00\x00\x05\xff\xff\xff\xff\xff\xff\xff\xff\xff\x01": {State: api.StateLate, Value: math.MinInt64},
	} {
		if e := call.Right(two, a); e != api.OK {
			t.Errorf("Right(%v): %v", a, e)
		}
		if got, e := call.Told(two, a); string(got) != b || e != api.OK {
			t.Errorf("Told(%v) = %x %v", a, got, e)
		}
		if x, many, e := call.Tell(two, []byte(b+"\x05")); x != a || many != len(b) || e != api.OK {
			t.Errorf("Tell(%x) = %v %d %v", b, x, many, e)
		}
		for cut := range b {
			if x, many, e := call.Tell(two, []byte(b[:cut])); x != (api.Answer{}) || many != 0 || e != api.ErrEnds {
				t.Errorf("Tell(%x) = %v %d %v", b[:cut], x, many, e)
			}
		}
		for _, s := range wrongShapes {
			got, e1 := call.Told(s, a)
			_, many, e2 := call.Tell(s, []byte(b))
			if call.Right(s, a) != api.ErrArg || e1 != api.ErrArg || e2 != api.ErrArg || got != nil || many != 0 {
				t.Errorf("%v: %v %v", s, e1, e2)
			}
		}
	}
	for _, a := range []api.Answer{{Errno: -1}, {Errno: 1000}, {Slot: 1}, {Slot: 2, Use: 1}, {Slot: -1, Use: 1}, {Slot: -1}, {Use: -1}, {Use: api.MaxUse + 1}, {State: -1}, {State: 6}, {Slot: math.MinInt, Use: math.MinInt64}} {
		if b, e := call.Told(two, a); b != nil || e != api.ErrArg || call.Right(two, a) != api.ErrArg {
			t.Errorf("Told(%v) = %x %v", a, b, e)
		}
	}
	for b, want := range map[string]api.Errno{"\xe8\x07\x00\x00\x00\x00": api.ErrAsk, "\x00\x01\x00\x00\x00": api.ErrAsk, "\x00\x02\x01\x00\x00": api.ErrAsk, "\x00\x00\x00\x06\x00": api.ErrAsk, "\x00\x00\x00\x06": api.ErrEnds, "\x00\x02\x80\x00": api.ErrForm, "\xff\xff\xff\xff\xff\xff\xff\xff\xff\x01\x00\x00\x00\x00": api.ErrAsk} {
		if a, many, e := call.Tell(two, []byte(b)); a != (api.Answer{}) || many != 0 || e != want {
			t.Errorf("Tell(%x) = %v %d %v", b, a, many, e)
		}
	}
}

// TestAsks: P19.3.
func TestAsks(t *testing.T) {
	l := []api.Ask{{Kind: api.AskPoll, Use: 3}, {Kind: api.AskTry, Lock: 1, Mode: api.ModeX}, {Kind: api.AskChange, Use: 3, By: 900}}
	var b []byte
	var ends []int
	for _, a := range l {
		x, _ := call.Bytes(two, a)
		b = append(b, x...)
		ends = append(ends, len(b))
	}
	b = append(b, 3, 2, 0, 1, 5, 0, 0, 3)
	seq := call.Asks(two, b)
	for range 2 {
		next, at := 0, 0
		for i, a := range seq {
			if i != at || next >= len(l) || a != l[next] {
				t.Errorf("at %d: %v", i, a)
			}
			at, next = ends[next], next+1
		}
		if next != len(l) {
			t.Errorf("%d asks", next)
		}
	}
	for i := range seq {
		if i != 0 {
			t.Errorf("first: %d", i)
		}
		break
	}
	for range call.Asks(api.Shape{}, []byte{5, 0, 0, 3}) {
		t.Error("asks of no shape")
	}
}

// TestThereAndBack: P19.4, no ask's bytes begin another one's.
func TestThereAndBack(t *testing.T) {
	r := rand.New(rand.NewSource(17))
	var all [][]byte
	for b := range right() {
		all = append(all, []byte(b))
	}
	for range 3000 {
		b := octet.Number(uint64(1 + r.Intn(7)))
		for range 4 {
			b = append(b, octet.Number([]uint64{0, 1, uint64(r.Intn(6)), uint64(r.Intn(200))}[r.Intn(4)])...)
		}
		a, many, e := call.Read(two, b)
		if e != api.OK {
			continue
		}
		if got, _ := call.Bytes(two, a); !bytes.Equal(got, b[:many]) {
			t.Fatalf("%x is read as %v, told as %x", b, a, got)
		}
		all = append(all, b[:many])
	}
	slices.SortFunc(all, bytes.Compare)
	all = slices.CompactFunc(all, bytes.Equal)
	for i := range all[1:] {
		if bytes.HasPrefix(all[i+1], all[i]) {
			t.Fatalf("%x begins %x", all[i], all[i+1])
		}
	}
}
