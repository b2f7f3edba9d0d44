package book_test

import (
	"slices"
	"testing"

	"castellan/api"
	"castellan/book"
)

// change is the note of one, of the lock 1.
func change(by, value int64, e, answer api.Errno) api.Note {
	return api.Note{Act: api.Act{Kind: api.ActAsk, Ask: api.Ask{Kind: api.AskChange, Lock: 1, Use: 1, By: by}}, Answer: api.Answer{Errno: answer, Value: value}, Errno: e}
}

// TestValues: what may be behind unsure changes, and answered ones.
func TestValues(t *testing.T) {
	other := change(9, 99, api.OK, api.OK)
	other.Act.Ask.Lock = 0
	read := change(9, 99, api.OK, api.OK)
	read.Act.Ask.Kind = api.AskRead
	tick := change(9, 99, api.OK, api.OK)
	tick.Act.Kind = api.ActTick
	skip := []api.Note{other, read, tick, change(9, 0, api.ErrDown, api.OK), change(9, 0, api.ErrFull, api.OK), change(9, 0, api.OK, api.ErrFloor)}
	stopped := func(by int64) api.Note { return change(by, 0, api.ErrStopped, api.OK) }
	ok := func(by, value int64) api.Note { return change(by, value, api.OK, api.OK) }
	for i, c := range []struct {
		l     []api.Note
		want  []int64
		sound bool
	}{
		{nil, []int64{5}, true}, {skip, []int64{5}, true}, {[]api.Note{ok(3, 8), ok(-6, 2)}, []int64{2}, true}, {[]api.Note{stopped(4)}, []int64{5, 9}, true}, {[]api.Note{stopped(-4)}, []int64{5}, true},
		{[]api.Note{stopped(4), stopped(-6)}, []int64{3, 5, 9}, true}, {[]api.Note{stopped(4), stopped(4)}, []int64{5, 9, 13}, true}, {[]api.Note{stopped(4), ok(1, 10)}, []int64{10}, true}, {[]api.Note{stopped(4), ok(1, 6)}, []int64{6}, true},
		{[]api.Note{ok(3, 9)}, []int64{9}, false}, {[]api.Note{ok(-4, 1)}, []int64{1}, false}, {[]api.Note{stopped(4), ok(1, 7), ok(1, 8)}, []int64{8}, false}, {append(skip, ok(1, 5)), []int64{5}, false},
	} {
		l, sound, e := book.Values(api.Counter{Value: 5, Floor: 2, Version: 1 << 62}, 1, c.l...)
		if !slices.Equal(l, c.want) || sound != c.sound || e != api.OK {
			t.Errorf("%d: %v %v %v", i, l, sound, e)
		}
	}
	var many []api.Note
	for i := range 13 {
		l, sound, e := book.Values(api.Counter{}, 1, many...)
		if len(l) != 1<<i || !sound || e != api.OK {
			t.Errorf("%d values: %v %v", len(l), sound, e)
		}
		many = append(many, stopped(1<<i))
	}
	if l, sound, e := book.Values(api.Counter{}, 1, append(many, ok(1, 1))...); l != nil || sound || e != api.ErrLong {
		t.Errorf("too many: %v", e)
	}
}

// TestTickets: what is told, and told twice.
func TestTickets(t *testing.T) {
	open := func(k api.AskKind, node, slot int, use int64, e, answer api.Errno) api.Note {
		return api.Note{Act: api.Act{Kind: api.ActAsk, Node: node, Ask: api.Ask{Kind: k, Lock: 1, Mode: 1}}, Answer: api.Answer{Errno: answer, Slot: slot, Use: use}, Errno: e}
	}
	l := []api.Note{open(api.AskAcquire, 2, 1, 7, 0, 0), open(api.AskTry, 0, 0, 7, 0, 0), open(api.AskPoll, 2, 1, 7, 0, 0), open(api.AskAcquire, 2, 1, 7, api.ErrStopped, 0), open(api.AskTry, 2, 1, 7, 0, api.ErrBusy), {Act: api.Act{Kind: api.ActTick}}}
	want := []api.Ticket{{Node: 2, Lock: 1, Slot: 1, Use: 7}, {Node: 0, Lock: 1, Use: 7}}
	if got, e := book.Tickets(l...); !slices.Equal(got, want) || e != api.OK {
		t.Errorf("%v %v", got, e)
	}
	for _, k := range []api.AskKind{api.AskAcquire, api.AskTry} {
		if got, e := book.Tickets(append(l, open(k, 2, 1, 7, 0, 0))...); got != nil || e != api.ErrAgain {
			t.Errorf("twice: %v %v", got, e)
		}
	}
}

// TestApart: two, at two places.
func TestApart(t *testing.T) {
	for _, c := range []struct {
		l    []api.Mode
		want bool
	}{
		{nil, false}, {[]api.Mode{api.ModeX}, false}, {[]api.Mode{api.ModeS, api.ModeS, api.ModeS}, false}, {[]api.Mode{api.ModeX, api.ModeX}, true}, {[]api.Mode{api.ModeSIX, api.ModeSIX}, true}, {[]api.Mode{api.ModeIS, api.ModeIX, api.ModeIX}, false},
		{[]api.Mode{api.ModeIS, api.ModeS, api.ModeIX}, true}, {[]api.Mode{api.ModeX, api.ModeIS}, true}, {[]api.Mode{api.ModeIS, api.ModeSIX, api.ModeIS}, false}, {[]api.Mode{api.ModeIS, api.ModeIS, api.ModeIS, api.ModeX}, true},
	} {
		if got := book.Apart(c.l...); got != c.want {
			t.Errorf("%v: %v", c.l, got)
		}
	}
}
