package node_test

import (
	"math"
	"math/rand"
	"slices"
	"testing"

	"castellan/api"
	"castellan/epoch"
	"castellan/lock"
	"castellan/message"
	"castellan/mode"
	"castellan/node"
)

// config is one of some nodes, with a lock that broadcasts and a tree.
func config(nodes int) api.Config {
	five := api.Counter{Value: 5}
	return api.Config{Shape: api.Shape{Nodes: nodes, Locks: 2, Slots: 2}, Forms: []api.Form{{Counter: five}, {Tree: true, Counter: five}}, Limit: 2, Retry: 2, Far: 6, Suspect: 9, Apart: 3}
}

// open tells a new node.
func open(t *testing.T, c api.Config, me int) api.Node {
	t.Helper()
	n, e := node.New(c, me)
	if e != api.OK || node.Check(c, n) != api.OK {
		t.Fatalf("New(%d): %v", me, e)
	}
	return n
}

func ask(a api.Ask) api.Event { return api.Event{Kind: api.EventAsk, Ask: a} }

func acquire(l int, m api.Mode, prio int, ticks int64) api.Event {
	return ask(api.Ask{Kind: api.AskAcquire, Lock: l, Mode: m, Prio: prio, Ticks: ticks})
}

func try(l int, m api.Mode) api.Event {
	return ask(api.Ask{Kind: api.AskTry, Lock: l, Mode: m})
}

func of(k api.AskKind, l, slot int, use, by int64) api.Event {
	return ask(api.Ask{Kind: k, Lock: l, Slot: slot, Use: use, By: by})
}

var tick = api.Event{Kind: api.EventTick}

// step lets an event happen, without a refusal.
func step(t *testing.T, c api.Config, n api.Node, x api.Event) (api.Node, api.Answer, []api.Packet) {
	t.Helper()
	after, a, out, e := node.Step(c, n, x)
	if e != api.OK || node.Check(c, after) != api.OK {
		t.Fatalf("Step(%v): %v", x, e)
	}
	return after, a, out
}

// says reads packets.
func says(t *testing.T, c api.Config, l []api.Packet) []api.Message {
	t.Helper()
	var all []api.Message
	for _, p := range l {
		m, e := message.Read(c.Shape, p.Bytes)
		if e != api.OK {
			t.Fatalf("a packet that is none: %v", e)
		}
		all = append(all, m)
	}
	return all
}

// kinds tells whereto packets go, and what kinds they are.
func kinds(t *testing.T, c api.Config, l []api.Packet) [][2]int {
	var all [][2]int
	for i, m := range says(t, c, l) {
		all = append(all, [2]int{l[i].To, int(m.Kind)})
	}
	return all
}

// comes is the event of a message, from a node, whose stamp is new.
func comes(t *testing.T, c api.Config, n api.Node, from int, m api.Message) api.Event {
	t.Helper()
	s := n.Link.In[from]
	m.Stamp = api.Stamp{Inc: max(s.Inc, 1), Seq: s.Seq + 1}
	b, e := message.Bytes(c.Shape, m)
	if e != api.OK {
		t.Fatalf("%v: %v", m, e)
	}
	return api.Event{Kind: api.EventHear, From: from, Bytes: b}
}

// ticks lets so many ticks come.
func ticks(t *testing.T, c api.Config, n api.Node, many int) (api.Node, []api.Packet) {
	var all []api.Packet
	for range many {
		after, _, out := step(t, c, n, tick)
		n, all = after, append(all, out...)
	}
	return n, all
}

// TestNew: P23.1.
func TestNew(t *testing.T) {
	c := config(3)
	for me := range 3 {
		n := open(t, c, me)
		if n.Me != me || n.Now != 0 || n.Since != 0 || n.Promise != (api.Promise{}) || n.Votes || len(n.Tally.Reports) != 0 || n.Link.Inc != 1 || len(n.Link.Out) != 3 || len(n.Locks) != 2 {
			t.Errorf("New(%d): %v", me, n)
		}
		for i, l := range n.Locks {
			want, _ := lock.Open(api.Place{Shape: c.Shape, Me: me, Lock: i, Limit: 2, Retry: 2, Far: 6}, i == 1, c.Forms[i].Counter)
			if l.Has != want.Has || l.Tree != want.Tree || l.Own != want.Own || l.Has != (me == i) {
				t.Errorf("New(%d), lock %d: %v", me, i, l)
			}
		}
	}
	for _, me := range []int{-1, 3, math.MaxInt} {
		if n, e := node.New(c, me); e != api.ErrArg || !node.Same(n, api.Node{}) {
			t.Errorf("New(%d): %v", me, e)
		}
	}
}

// TestRight: P23.1, configs that may not be.
func TestRight(t *testing.T) {
	edge := api.Config{Shape: api.Shape{Nodes: 64, Locks: 1, Slots: 1}, Forms: make([]api.Form, 1), Limit: 64, Retry: api.MaxSpan - 1, Far: api.MaxSpan, Suspect: api.MaxSpan, Apart: api.MaxSpan}
	least := api.Config{Shape: api.Shape{Nodes: 1, Locks: 1, Slots: 1}, Forms: make([]api.Form, 1), Retry: 1, Far: 1, Suspect: 2}
	for _, c := range []api.Config{config(2), edge, least} {
		if e := node.Right(c); e != api.OK {
			t.Errorf("%v: %v", c, e)
		}
	}
	ok := open(t, config(2), 0)
	for i, change := range []func(*api.Config){
		func(c *api.Config) { c.Shape.Nodes = 0 }, func(c *api.Config) { c.Shape.Nodes = 65 }, func(c *api.Config) { c.Forms = c.Forms[:1] }, func(c *api.Config) { c.Forms = nil }, func(c *api.Config) { c.Forms[1].Counter.Floor = 9 }, func(c *api.Config) { c.Limit = -1 }, func(c *api.Config) { c.Limit = 65 },
		func(c *api.Config) { c.Retry = 0 }, func(c *api.Config) { c.Retry = math.MaxInt64 }, func(c *api.Config) { c.Far = 0 }, func(c *api.Config) { c.Far = api.MaxSpan + 1 }, func(c *api.Config) { c.Suspect = 2 }, func(c *api.Config) { c.Suspect = api.MaxSpan + 1 }, func(c *api.Config) { c.Apart = -1 }, func(c *api.Config) { c.Apart = api.MaxSpan + 1 },
	} {
		c := config(2)
		change(&c)
		n, e1 := node.New(c, 0)
		_, a, out, e2 := node.Step(c, ok, tick)
		if node.Right(c) != api.ErrArg || node.Check(c, ok) != api.ErrArg || node.May(c, 0, tick) != api.ErrArg || e1 != api.ErrArg || e2 != api.ErrArg || !node.Same(n, api.Node{}) || a != (api.Answer{}) || out != nil {
			t.Errorf("config %d: %v %v", i, e1, e2)
		}
		for range node.Run(c, ok, tick) {
			t.Errorf("config %d: Run", i)
		}
	}
}

// TestCheck: P23.1, nodes that may not be.
func TestCheck(t *testing.T) {
	c := config(2)
	for i, change := range []func(*api.Node){
		func(n *api.Node) { n.Me = -1 }, func(n *api.Node) { n.Me = 2 }, func(n *api.Node) { n.Now = -1 }, func(n *api.Node) { n.Now = api.MaxTick + 1 }, func(n *api.Node) { n.Since = -1 },
		func(n *api.Node) { n.Link.Inc = 0 }, func(n *api.Node) { n.Link.Out, n.Link.In = n.Link.Out[:1], n.Link.In[:1] }, func(n *api.Node) { n.Promise.Epoch.Node = 2 }, func(n *api.Node) { n.Promise.Epoch.Count = -1 }, func(n *api.Node) { n.Votes = true },
		func(n *api.Node) { n.Votes, n.Promise.Frozen = true, true }, func(n *api.Node) {
			n.Votes, n.Promise = true, api.Promise{Epoch: api.Epoch{Count: 1, Node: 1}, Frozen: true}
			n.Tally.Reports = make([][]api.Report, 2)
		}, func(n *api.Node) { n.Votes, n.Tally.Reports = true, make([][]api.Report, 2) },
		func(n *api.Node) { n.Locks = n.Locks[:1] }, func(n *api.Node) { n.Locks = append(n.Locks, n.Locks[0]) }, func(n *api.Node) { n.Locks[1].Own.Node = 9 }, func(n *api.Node) { n.Locks[0].Last = 7 }, func(n *api.Node) { n.Locks[0].Tries = nil },
	} {
		n := open(t, c, 0)
		change(&n)
		x, a, out, e := node.Step(c, n, tick)
		if node.Check(c, n) != api.ErrArg || e != api.ErrArg || !node.Same(x, api.Node{}) || a != (api.Answer{}) || out != nil {
			t.Errorf("node %d: %v", i, e)
		}
	}
}

// TestMay: P23.1, events that may not be.
func TestMay(t *testing.T) {
	c := config(3)
	poll := of(api.AskPoll, 0, 0, 1, 0)
	for _, x := range []api.Event{tick, {Kind: api.EventRestart}, {Kind: api.EventHear, From: 0}, {Kind: api.EventHear, From: 2, Bytes: []byte{1}}, poll, {Kind: api.EventTick, Bytes: []byte{}}} {
		if e := node.May(c, 1, x); e != api.OK {
			t.Errorf("%v: %v", x.Kind, e)
		}
	}
	ok := open(t, c, 1)
	for i, x := range []api.Event{
		{}, {Kind: 5}, {Kind: -1}, {Kind: api.EventTick, From: 1}, {Kind: api.EventTick, Bytes: []byte{0}}, {Kind: api.EventRestart, Ask: poll.Ask}, {Kind: api.EventRestart, From: -1}, {Kind: api.EventHear, From: 1}, {Kind: api.EventHear, From: 3}, {Kind: api.EventHear, From: -1}, {Kind: api.EventHear, Ask: poll.Ask},
		{Kind: api.EventAsk}, {Kind: api.EventAsk, Ask: poll.Ask, From: 1}, {Kind: api.EventAsk, Ask: poll.Ask, Bytes: []byte{1}}, of(api.AskPoll, 2, 0, 1, 0), of(api.AskPoll, 0, 0, 0, 0), acquire(0, 0, 0, 0), of(api.AskChange, 0, 0, 1, 0),
	} {
		_, _, _, e := node.Step(c, ok, x)
		if node.May(c, 1, x) != api.ErrArg || e != api.ErrArg {
			t.Errorf("event %d: %v", i, e)
		}
	}
	for _, me := range []int{-1, 3} {
		if e := node.May(c, me, tick); e != api.ErrArg {
			t.Errorf("node %d: %v", me, e)
		}
	}
}

// TestExample: P23.2, the example, and the table of asks.
func TestExample(t *testing.T) {
	c := config(2)
	n := open(t, c, 0)
	held := api.Answer{Use: 1, State: api.StateHeld}
	for i, r := range []struct {
		x    api.Event
		want api.Answer
	}{
		{acquire(0, api.ModeX, 0, 0), held}, {of(api.AskChange, 0, 0, 1, -2), api.Answer{Use: 1, State: api.StateHeld, Value: 3}}, {of(api.AskRead, 0, 0, 1, 0), api.Answer{Use: 1, State: api.StateHeld, Value: 3}},
		{of(api.AskChange, 0, 0, 1, -4), api.Answer{Errno: api.ErrFloor}}, {of(api.AskPoll, 0, 0, 1, 0), held}, {of(api.AskPoll, 0, 0, 2, 0), api.Answer{Errno: api.ErrNone}}, {of(api.AskCancel, 0, 0, 1, 0), api.Answer{Errno: api.ErrHolds}},
		{try(0, api.ModeS), api.Answer{Errno: api.ErrBusy}}, {acquire(0, api.ModeS, 0, 0), api.Answer{Slot: 1, Use: 2, State: api.StatePending}}, {acquire(0, api.ModeS, 0, 0), api.Answer{Errno: api.ErrSlots}}, {try(0, api.ModeS), api.Answer{Errno: api.ErrSlots}}, {of(api.AskRelease, 0, 1, 2, 0), api.Answer{Errno: api.ErrPending}},
		{of(api.AskCancel, 0, 1, 2, 0), api.Answer{Slot: 1, Use: 2, State: api.StateCancelled}}, {of(api.AskRelease, 0, 0, 1, 0), api.Answer{Use: 1, State: api.StateReleased}}, {of(api.AskRead, 0, 0, 1, 0), api.Answer{Errno: api.ErrRight}}, {of(api.AskRelease, 0, 0, 1, 0), api.Answer{Errno: api.ErrEnded}},
		{try(0, api.ModeX), api.Answer{Use: 2, State: api.StateHeld}}, {of(api.AskPoll, 0, 1, 1, 0), api.Answer{Errno: api.ErrNone}},
	} {
		after, a, out := step(t, c, n, r.x)
		if a != r.want || len(out) != 0 {
			t.Errorf("%d: %v, not %v", i, a, r.want)
		}
		n = after
	}
	far := open(t, c, 1)
	far, a, out := step(t, c, far, acquire(0, api.ModeX, 3, 7))
	if a != (api.Answer{Use: 1, State: api.StatePending}) || len(out) != 1 || out[0].From != 1 || out[0].To != 0 || far.Locks[0].Slots[0].Due != 7 {
		t.Errorf("at node 1: %v %v", a, out)
	}
	if m := says(t, c, out)[0]; m.Kind != api.MsgStat || m.Stamp != (api.Stamp{Inc: 1, Seq: 1}) || m.Epoch != (api.Epoch{}) || m.Site != 2 || m.Hop != 1 {
		t.Errorf("what it sends: %v", m)
	}
	if _, a, out := step(t, c, far, try(0, api.ModeS)); a != (api.Answer{Errno: api.ErrBusy}) || len(out) != 0 {
		t.Errorf("try where the token is not: %v", a)
	}
}

// TestDue: P23.2, Due is at most the last tick; the clock stands still there.
func TestDue(t *testing.T) {
	c := config(2)
	n := open(t, c, 1)
	n.Now, n.Since = api.MaxTick-3, api.MaxTick-3
	n, _, _ = step(t, c, n, acquire(0, api.ModeX, 0, api.MaxTick))
	n, _, _ = step(t, c, n, acquire(0, api.ModeX, 0, 2))
	one := open(t, c, 1)
	if one, _, _ = step(t, c, one, acquire(0, api.ModeX, 0, 1)); one.Locks[0].Slots[0].Due != 1 {
		t.Errorf("Due: %v", one.Locks[0].Slots)
	}
	if n.Locks[0].Slots[0].Due != api.MaxTick || n.Locks[0].Slots[1].Due != api.MaxTick-1 {
		t.Errorf("Due: %v", n.Locks[0].Slots)
	}
	n, _ = ticks(t, c, n, 2)
	if n.Locks[0].Slots[0].State != api.StatePending || n.Locks[0].Slots[1].State != api.StateLate {
		t.Errorf("late: %v", n.Locks[0].Slots)
	}
	if n, _ = ticks(t, c, n, 5); n.Now != api.MaxTick || n.Locks[0].Slots[0].State != api.StateLate {
		t.Errorf("at the end: %d %v", n.Now, n.Locks[0].Slots)
	}
}

// TestStamps: P23.2, what comes twice, or late, is let be; what has no stamp is left out.
func TestStamps(t *testing.T) {
	c := config(2)
	a, b := open(t, c, 0), open(t, c, 1)
	b, _, out := step(t, c, b, acquire(0, api.ModeX, 0, 0))
	x := api.Event{Kind: api.EventHear, From: 1, Bytes: out[0].Bytes}
	a, _, back := step(t, c, a, x)
	if got := kinds(t, c, back); !slices.Equal(got, [][2]int{{1, 4}, {1, 2}}) {
		t.Errorf("it goes: %v", got)
	}
	again, _, none := step(t, c, a, x)
	if len(none) != 0 || !node.Same(a, again) {
		t.Errorf("twice: %v", none)
	}
	b, _, _ = step(t, c, b, api.Event{Kind: api.EventHear, From: 0, Bytes: back[1].Bytes})
	late, _, _ := step(t, c, b, api.Event{Kind: api.EventHear, From: 0, Bytes: back[0].Bytes})
	if !node.Same(late, b) || b.Locks[0].Has {
		t.Error("a token that comes late is taken")
	}
	for _, raw := range [][]byte{nil, {1, 2, 3}, back[0].Bytes[1:], append(slices.Clone(back[0].Bytes), 0)} {
		if after, ans, out := step(t, c, b, api.Event{Kind: api.EventHear, From: 0, Bytes: raw}); !node.Same(after, b) || ans != (api.Answer{}) || len(out) != 0 {
			t.Errorf("%x does something", raw)
		}
	}
	b.Link.Out[0] = api.MaxStamp
	if _, _, out := step(t, c, b, of(api.AskCancel, 0, 0, 1, 0)); len(out) != 0 {
		t.Errorf("without a stamp: %v", out)
	}
	r, ans, none := step(t, c, b, api.Event{Kind: api.EventRestart})
	if r.Link.Inc != 2 || r.Link.Out[0] != 0 || r.Link.In[0] != b.Link.In[0] || ans != (api.Answer{}) || len(none) != 0 {
		t.Errorf("restart: %v", r.Link)
	}
	r.Link.Inc = api.MaxStamp
	if end, _, _ := step(t, c, r, api.Event{Kind: api.EventRestart}); !node.Same(end, r) {
		t.Errorf("the last restart: %v", end.Link)
	}
}

// TestVote: P23.2, who is not heard for as long as its patience asks for an epoch.
func TestVote(t *testing.T) {
	c := config(3)
	n := open(t, c, 1)
	n, _, _ = step(t, c, n, acquire(0, api.ModeX, 0, 0))
	n, out := ticks(t, c, n, 11)
	if n.Promise.Frozen || slices.ContainsFunc(kinds(t, c, out), func(x [2]int) bool { return x[1] != int(api.MsgStat) }) {
		t.Fatalf("ahead of its time: %v", kinds(t, c, out))
	}
	n, _, out = step(t, c, n, tick)
	if !n.Promise.Frozen || n.Promise.Epoch != (api.Epoch{Count: 1, Node: 1}) || !n.Votes || n.Since != 12 || len(n.Tally.Reports) != 3 || !slices.Equal(n.Tally.Reports[1], []api.Report{{}, {Has: true, Hop: 1}}) || len(n.Tally.Reports[0]) != 0 {
		t.Fatalf("it votes: %v", n)
	}
	if got := kinds(t, c, out); !slices.Equal(got[len(got)-2:], [][2]int{{0, 5}, {2, 5}}) || says(t, c, out)[len(got)-1].Epoch != n.Promise.Epoch || len(got) > 2 && says(t, c, out)[0].Epoch != (api.Epoch{}) {
		t.Errorf("what it sends: %v", got)
	}
	// It is frozen: nothing is sent, and tries are busy, where the token is, too.
	if _, a, _ := step(t, c, n, try(1, api.ModeS)); a != (api.Answer{Errno: api.ErrBusy}) {
		t.Errorf("try where it is frozen: %v", a)
	}
	if _, a, out := step(t, c, n, acquire(1, api.ModeS, 0, 0)); a.State != api.StatePending || len(out) != 0 {
		t.Errorf("acquire where it is frozen: %v %v", a, out)
	}
	n2, out := ticks(t, c, n, 11)
	if len(out) != 0 || n2.Promise != n.Promise {
		t.Errorf("frozen: %v", kinds(t, c, out))
	}
	n2, _, out = step(t, c, n2, tick)
	if n2.Promise.Epoch != (api.Epoch{Count: 2, Node: 1}) || n2.Since != 24 || len(out) != 2 {
		t.Errorf("frozen for as long: %v", n2.Promise)
	}
	// The same packets lost, the reports come.
	r := func(x ...api.Report) api.Message {
		return api.Message{Kind: api.MsgReport, Epoch: n.Promise.Epoch, Reports: x}
	}
	n, _, out = step(t, c, n, comes(t, c, n, 2, r(api.Report{Hop: 4}, api.Report{})))
	if len(out) != 0 || !n.Votes || len(n.Tally.Reports[2]) != 2 {
		t.Errorf("a report: %v", out)
	}
	n, _, out = step(t, c, n, comes(t, c, n, 2, r(api.Report{Hop: 9}, api.Report{})))
	if n.Tally.Reports[2][0].Hop != 4 || len(out) != 0 {
		t.Errorf("a second report of one node: %v", n.Tally)
	}
	old := r(api.Report{Hop: 3}, api.Report{})
	old.Epoch = api.Epoch{}
	same, _, _ := step(t, c, n, comes(t, c, n, 0, old))
	if len(same.Tally.Reports[0]) != 0 {
		t.Error("a report of another epoch counts")
	}
	two, _, out := step(t, c, n, comes(t, c, n, 0, r(api.Report{Hop: 3}, api.Report{Has: true, Hop: 2})))
	if len(out) != 0 || !two.Votes || !two.Promise.Frozen {
		t.Errorf("what can't be decided: %v", out)
	}
	n, _, out = step(t, c, n, comes(t, c, n, 0, r(api.Report{Hop: 3}, api.Report{})))
	got := says(t, c, out)
	if n.Votes || n.Promise.Frozen || len(n.Tally.Reports) != 0 || n.Since != n.Now || len(got) != 2 || got[0].Kind != api.MsgStart || len(got[0].Backs) != 0 || got[1].Kind != api.MsgStart || !slices.Equal(got[1].Backs, []api.Back{{Lock: 0, Node: 2, Hop: 4}}) || out[0].To != 0 || out[1].To != 2 {
		t.Errorf("it begins: %v", got)
	}
	if n.Locks[0].Tries[0].Sent != -1 || n.Locks[0].Tries[0].Heard != n.Now || n.Locks[1].Tries[1].Sent != -1 {
		t.Errorf("it wakes: %v", n.Locks[0].Tries)
	}
}

// TestQuiet: P23.2, where nobody waits no epoch is asked for.
func TestQuiet(t *testing.T) {
	c := config(3)
	for me := range 3 {
		if n, out := ticks(t, c, open(t, c, me), 50); n.Promise != (api.Promise{}) || len(out) != 0 {
			t.Errorf("node %d: %v", me, n.Promise)
		}
	}
}

// TestLastCount: P23.2, where there is no next epoch nothing but Since changes.
func TestLastCount(t *testing.T) {
	c := config(2)
	n := open(t, c, 1)
	n.Promise.Epoch.Count = api.MaxCount
	n, _, _ = step(t, c, n, acquire(0, api.ModeX, 0, 0))
	n, out := ticks(t, c, n, 12)
	if n.Promise != (api.Promise{Epoch: api.Epoch{Count: api.MaxCount}}) || n.Since != 12 || n.Votes || slices.ContainsFunc(kinds(t, c, out), func(x [2]int) bool { return x[1] == int(api.MsgAsk) }) {
		t.Errorf("%v since %d", n.Promise, n.Since)
	}
}

// TestAlone: P23.2, one node alone takes its own lost token back at once.
func TestAlone(t *testing.T) {
	c := config(1)
	n := open(t, c, 0)
	l := &n.Locks[0]
	l.Has, l.Last, l.Token.Hop, l.Own = false, 7, 7, api.Owner{Node: 0, Hop: 7}
	n, a, _ := step(t, c, n, acquire(0, api.ModeX, 0, 0))
	if a.State != api.StatePending {
		t.Fatalf("%v", a)
	}
	n, out := ticks(t, c, n, 9)
	if n.Promise != (api.Promise{Epoch: api.Epoch{Count: 1, Node: 0}}) || n.Votes || !n.Locks[0].Has || n.Locks[0].Last != 8 || n.Locks[0].Slots[0].State != api.StateHeld || len(out) != 0 {
		t.Errorf("%v %v", n.Promise, n.Locks[0])
	}
}

// TestPromise: P23.2, what is promised when an epoch is asked for, and who is told.
func TestPromise(t *testing.T) {
	c := config(3)
	n := open(t, c, 1)
	n, _ = ticks(t, c, n, 4)
	e1, e2 := api.Epoch{Count: 1, Node: 0}, api.Epoch{Count: 1, Node: 2}
	n, _, out := step(t, c, n, comes(t, c, n, 2, api.Message{Kind: api.MsgAsk, Epoch: e1}))
	m := says(t, c, out)
	if n.Promise != (api.Promise{Epoch: e1, Frozen: true}) || n.Since != 4 || len(m) != 1 || out[0].To != 0 || m[0].Kind != api.MsgReport || m[0].Epoch != e1 || !slices.Equal(m[0].Reports, []api.Report{{}, {Has: true, Hop: 1}}) {
		t.Fatalf("asked: %v %v", n.Promise, m)
	}
	n, _ = ticks(t, c, n, 1)
	same, _, out := step(t, c, n, comes(t, c, n, 0, api.Message{Kind: api.MsgAsk, Epoch: e1}))
	if len(out) != 0 || same.Since != 4 || same.Promise != n.Promise {
		t.Errorf("asked for the same: %v", out)
	}
	n, _, out = step(t, c, n, comes(t, c, n, 2, api.Message{Kind: api.MsgAsk, Epoch: e2}))
	if n.Promise.Epoch != e2 || n.Since != 5 || len(out) != 1 || out[0].To != 2 {
		t.Errorf("asked for a later one: %v", n.Promise)
	}
	n, _, out = step(t, c, n, comes(t, c, n, 0, api.Message{Kind: api.MsgAsk, Epoch: e1}))
	m = says(t, c, out)
	if n.Promise.Epoch != e2 || len(out) != 1 || out[0].To != 0 || m[0].Kind != api.MsgAsk || m[0].Epoch != e2 {
		t.Errorf("asked for an earlier one: %v", m)
	}
	own := api.Epoch{Count: 9, Node: 1}
	x, _, out := step(t, c, n, comes(t, c, n, 0, api.Message{Kind: api.MsgAsk, Epoch: own}))
	if x.Promise != (api.Promise{Epoch: own, Frozen: true}) || x.Votes || len(out) != 0 {
		t.Errorf("asked for one of its own: %v %v", x.Promise, out)
	}
	// Who votes, and is asked for a later one, votes no more.
	v := open(t, c, 1)
	v, _, _ = step(t, c, v, acquire(0, api.ModeX, 0, 0))
	v, _ = ticks(t, c, v, 12)
	v, _, out = step(t, c, v, comes(t, c, v, 2, api.Message{Kind: api.MsgAsk, Epoch: e2}))
	if v.Votes || len(v.Tally.Reports) != 0 || v.Promise != (api.Promise{Epoch: e2, Frozen: true}) || len(out) != 1 {
		t.Errorf("it votes no more: %v", v.Promise)
	}
}

// TestStart: P23.2, that the epoch began; those that are not frozen any more take back, too.
func TestStart(t *testing.T) {
	c := config(3)
	lost := func() api.Node {
		n := open(t, c, 0)
		n, _, _ = step(t, c, n, comes(t, c, n, 2, api.Message{Kind: api.MsgStat, Site: 4, Stat: api.Stat{Pending: true, Mode: api.ModeX}, Hop: 1}))
		if n.Locks[0].Has || n.Locks[0].Last != 2 {
			t.Fatal("it didn't go")
		}
		return n
	}
	e := api.Epoch{Count: 1, Node: 1}
	backs := []api.Back{{Lock: 0, Node: 0, Hop: 2}, {Lock: 1, Node: 2, Hop: 1}}
	n := lost()
	early, _, out := step(t, c, n, comes(t, c, n, 1, api.Message{Kind: api.MsgStart, Epoch: e, Backs: backs}))
	if early.Locks[0].Has || len(out) != 0 || early.Promise != n.Promise {
		t.Error("of another epoch it counts")
	}
	n, _, _ = step(t, c, n, comes(t, c, n, 1, api.Message{Kind: api.MsgAsk, Epoch: e}))
	n, _ = ticks(t, c, n, 3)
	start := comes(t, c, n, 1, api.Message{Kind: api.MsgStart, Epoch: e, Backs: backs})
	woken, _, out := step(t, c, n, start)
	if woken.Promise.Frozen || woken.Since != 3 || woken.Locks[0].Last != 4 || !slices.Equal(kinds(t, c, out), [][2]int{{2, 4}}) || woken.Locks[1].Last != 0 || says(t, c, out)[0].Epoch != e || woken.Locks[0].Tries[0].Sent != -1 {
		t.Errorf("it began: %v", kinds(t, c, out))
	}
	n, _, out = step(t, c, n, comes(t, c, n, 1, api.Message{Kind: api.MsgStat, Epoch: e, Lock: 1, Site: 2, Stat: api.Stat{Over: 3}, Hop: 1}))
	if n.Promise.Frozen || n.Since != 3 || n.Locks[1].Known[2].Over != 3 || len(out) != 0 {
		t.Errorf("any other one wakes: %v", n.Promise)
	}
	n, _ = ticks(t, c, n, 1)
	n, _, out = step(t, c, n, comes(t, c, n, 1, api.Message{Kind: api.MsgStart, Epoch: e, Backs: backs}))
	if n.Locks[0].Last != 4 || n.Since != 3 || len(out) != 1 {
		t.Errorf("woken already: %v", kinds(t, c, out))
	}
	other, _, out := step(t, c, n, comes(t, c, n, 1, api.Message{Kind: api.MsgStat, Epoch: api.Epoch{}, Lock: 1, Site: 2, Stat: api.Stat{Over: 9}, Hop: 1}))
	if other.Locks[1].Known[2].Over != 3 || len(out) != 0 || node.Same(other, n) {
		t.Error("what is of another epoch is not let be, or its stamp not taken")
	}
}

// TestWakeSettles: P23.2, when it wakes all its locks settle, rising.
func TestWakeSettles(t *testing.T) {
	c := config(2)
	n := open(t, c, 0)
	e := api.Epoch{Count: 1, Node: 1}
	n, _, _ = step(t, c, n, comes(t, c, n, 1, api.Message{Kind: api.MsgAsk, Epoch: e}))
	n, a, _ := step(t, c, n, acquire(0, api.ModeS, 0, 0))
	if a.State != api.StatePending {
		t.Fatalf("granted where it is frozen: %v", a)
	}
	n, _, out := step(t, c, n, comes(t, c, n, 1, api.Message{Kind: api.MsgStat, Epoch: e, Lock: 0, Site: 2, Stat: api.Stat{Pending: true, Mode: api.ModeS}, Hop: 1}))
	if n.Locks[0].Slots[0].State != api.StateHeld || !slices.Equal(kinds(t, c, out), [][2]int{{1, 3}, {1, 2}}) {
		t.Errorf("%v %v", n.Locks[0].Slots, kinds(t, c, out))
	}
}

// TestOthersSettle: P23.2, when it wakes by what one lock hears, the others settle, too.
func TestOthersSettle(t *testing.T) {
	c := config(2)
	n := open(t, c, 0)
	e := api.Epoch{Count: 1, Node: 1}
	n, _, _ = step(t, c, n, comes(t, c, n, 1, api.Message{Kind: api.MsgAsk, Epoch: e}))
	n, _, _ = step(t, c, n, acquire(0, api.ModeS, 0, 0))
	n, _, _ = step(t, c, n, comes(t, c, n, 1, api.Message{Kind: api.MsgAck, Epoch: e, Lock: 1, Site: 0, Hop: 1}))
	if n.Promise.Frozen || n.Locks[0].Slots[0].State != api.StateHeld {
		t.Errorf("%v %v", n.Promise, n.Locks[0].Slots)
	}
}

// TestRunSame: P23.1, P23.3.
func TestRunSame(t *testing.T) {
	c := config(1)
	n := open(t, c, 0)
	l := []api.Event{acquire(0, api.ModeX, 0, 0), tick, of(api.AskRead, 0, 0, 1, 0), {}, tick}
	seq := node.Run(c, n, l...)
	for range 2 {
		var got []api.Answer
		for i, a := range seq {
			if i != len(got) {
				t.Errorf("number %d", i)
			}
			got = append(got, a)
		}
		if !slices.Equal(got, []api.Answer{{Use: 1, State: api.StateHeld}, {}, {Use: 1, State: api.StateHeld, Value: 5}}) {
			t.Errorf("Run: %v", got)
		}
	}
	for i := range seq {
		if i != 0 {
			t.Errorf("first: %d", i)
		}
		break
	}
	for i, change := range []func(*api.Node){
		func(n *api.Node) { n.Me++ }, func(n *api.Node) { n.Now++ }, func(n *api.Node) { n.Since++ }, func(n *api.Node) { n.Link.Inc++ }, func(n *api.Node) { n.Link.Out[1]++ }, func(n *api.Node) { n.Link.In[1].Seq++ }, func(n *api.Node) { n.Promise.Frozen = true }, func(n *api.Node) { n.Votes = true }, func(n *api.Node) { n.Tally.Reports = [][]api.Report{{{}}} },
		func(n *api.Node) { n.Locks = n.Locks[:1] }, func(n *api.Node) { n.Locks[1].Tree = false }, func(n *api.Node) { n.Locks[0].Has = false }, func(n *api.Node) { n.Locks[0].Token.Hop++ }, func(n *api.Node) { n.Locks[0].Last++ }, func(n *api.Node) { n.Locks[0].Own.Hop++ }, func(n *api.Node) { n.Locks[1].Known[3].Over++ }, func(n *api.Node) { n.Locks[1].Slots[1].Use++ }, func(n *api.Node) { n.Locks[1].Tries[1].Heard++ },
	} {
		a, b := open(t, config(2), 0), open(t, config(2), 0)
		if !node.Same(a, b) {
			t.Error("the same are others")
		}
		change(&a)
		if node.Same(a, b) || node.Same(b, a) {
			t.Errorf("%d: another one is the same", i)
		}
	}
	if !node.Same(api.Node{Locks: []api.Lock{}}, api.Node{Tally: api.Tally{Reports: [][]api.Report{}}}) {
		t.Error("nil and empty lists are others")
	}
}

// cluster is a few nodes, and packets on their way.
type cluster struct {
	t     *testing.T
	r     *rand.Rand
	c     api.Config
	nodes []api.Node
	way   []api.Packet
}

// happens lets an event happen to a node, and holds P23.4 against it.
func (k *cluster) happens(n int, x api.Event) {
	was := k.nodes[n]
	after, _, out := step(k.t, k.c, was, x)
	twice, _, _ := step(k.t, k.c, was, x)
	if !node.Same(after, twice) || epoch.Order(after.Promise.Epoch, was.Promise.Epoch) < 0 {
		k.t.Fatal("the same leads to another one, or an epoch goes back")
	}
	k.nodes[n] = after
	k.way = append(k.way, out...)
}

// deliver lets a packet come, and perhaps stay on its way, too; or lets it be lost.
func (k *cluster) deliver() {
	if len(k.way) == 0 {
		return
	}
	i := k.r.Intn(len(k.way))
	p := k.way[i]
	if k.r.Intn(8) > 0 {
		k.way = slices.Delete(k.way, i, i+1)
	}
	if k.r.Intn(6) > 0 {
		k.happens(p.To, api.Event{Kind: api.EventHear, From: p.From, Bytes: p.Bytes})
	}
}

// client asks a node for something.
func (k *cluster) client(n int) {
	l, s := k.r.Intn(2), k.r.Intn(2)
	use := k.nodes[n].Locks[l].Slots[s].Use
	switch k.r.Intn(6) {
	case 0, 1:
		k.happens(n, acquire(l, api.Mode(1+k.r.Intn(5)), k.r.Intn(4), int64(k.r.Intn(2)*40)))
	case 2:
		k.happens(n, try(l, api.Mode(1+k.r.Intn(5))))
	default:
		if use > 0 {
			k.happens(n, of([]api.AskKind{api.AskCancel, api.AskRelease, api.AskRelease}[k.r.Intn(3)], l, s, use, 0))
		}
	}
}

// sound holds all nodes against P23.4.
func (k *cluster) sound() (held int) {
	for l := range 2 {
		has := 0
		var modes []api.Mode
		for _, n := range k.nodes {
			if n.Locks[l].Has {
				has++
			}
			for _, s := range n.Locks[l].Slots {
				if s.State == api.StateHeld {
					modes = append(modes, s.Mode)
				}
			}
		}
		if ok, _ := mode.Together(modes...); !ok || has > 1 {
			k.t.Fatalf("lock %d: %v; %d have the token", l, modes, has)
		}
		held += len(modes)
	}
	return held
}

// TestApart: P23.4, whatever comes, and whoever restarts.
func TestApart(t *testing.T) {
	r := rand.New(rand.NewSource(21))
	held, epochs := 0, int64(0)
	for range 30 {
		k := &cluster{t: t, r: r, c: config(2 + r.Intn(3))}
		for n := range k.c.Shape.Nodes {
			k.nodes = append(k.nodes, open(t, k.c, n))
		}
		for range 500 {
			n := r.Intn(len(k.nodes))
			switch x := r.Intn(12); {
			case x < 2:
				k.changes(n)
			case x < 6:
				k.happens(n, tick)
			case x == 6 && r.Intn(4) == 0:
				k.happens(n, api.Event{Kind: api.EventRestart})
			default:
				k.deliver()
			}
			held += k.sound()
		}
		for _, n := range k.nodes {
			epochs = max(epochs, n.Promise.Epoch.Count)
		}
	}
	if held < 1000 || epochs < 3 {
		t.Errorf("%d held, %d epochs", held, epochs)
	}
}

// changes asks for a change, or for something else.
func (k *cluster) changes(n int) {
	l, s := k.r.Intn(2), k.r.Intn(2)
	if use := k.nodes[n].Locks[l].Slots[s].Use; use > 0 && k.r.Intn(4) == 0 {
		k.happens(n, of(api.AskChange, l, s, use, int64(1+k.r.Intn(3))))
		return
	}
	k.client(n)
}
