package manager_test

import (
	"math"
	"math/rand"
	"testing"

	"castellan/api"
	"castellan/manager"
	"castellan/node"
)

// config is one of some nodes.
func config(nodes int) api.Config {
	return api.Config{Shape: api.Shape{Nodes: nodes, Locks: 2, Slots: 2}, Forms: []api.Form{{Counter: api.Counter{Value: 5}}, {Tree: true}}, Limit: 2, Retry: 2, Far: 6, Suspect: 9, Apart: 3}
}

// open tells a new manager.
func open(t *testing.T, c api.Config, me, room, bound int) *manager.Manager {
	t.Helper()
	m, e := manager.New(c, me, room, bound)
	if e != api.OK || m == nil || !m.Up() {
		t.Fatalf("New: %v", e)
	}
	return m
}

var tick = api.Event{Kind: api.EventTick}

func acquire(l int, m api.Mode) api.Event {
	return api.Event{Kind: api.EventAsk, Ask: api.Ask{Kind: api.AskAcquire, Lock: l, Mode: m}}
}

// open tickets of a manager, each with its state.
type ticket struct {
	t api.Ticket
	s api.State
}

func tickets(m *manager.Manager) []ticket {
	var l []ticket
	for t, s := range m.Tickets() {
		l = append(l, ticket{t, s})
	}
	return l
}

// TestExample: P26.1 to P26.3.
func TestExample(t *testing.T) {
	m := open(t, config(1), 0, 2000, 2)
	want := ticket{api.Ticket{Use: 1}, api.StateHeld}
	if a, out, e := m.Do(acquire(0, api.ModeX)); a.State != api.StateHeld || len(out) != 0 || e != api.OK || m.Records() != 1 {
		t.Errorf("Do: %v %v, %d records", a, e, m.Records())
	}
	if l := tickets(m); len(l) != 1 || l[0] != want {
		t.Errorf("Tickets: %v", l)
	}
	was := m.Node()
	if e := m.Crash([2]int{}); e != api.OK || m.Up() || m.Records() != 0 || !node.Same(m.Node(), api.Node{}) || len(tickets(m)) != 0 {
		t.Errorf("Crash: %v", e)
	}
	if a, out, e := m.Do(tick); a != (api.Answer{}) || out != nil || e != api.ErrDown {
		t.Errorf("Do: %v", e)
	}
	if _, _, e := m.Do(api.Event{}); e != api.ErrDown {
		t.Errorf("ErrDown first: %v", e)
	}
	out, e := m.Revive()
	again, _, _, _ := node.Step(config(1), was, api.Event{Kind: api.EventRestart})
	if len(out) != 0 || e != api.OK || !m.Up() || m.Records() != 2 || !node.Same(m.Node(), again) {
		t.Errorf("Revive: %v, %d records", e, m.Records())
	}
	if l := tickets(m); len(l) != 1 || l[0] != want {
		t.Errorf("Tickets: %v", l)
	}
	if out, e := m.Revive(); out != nil || e != api.ErrUp {
		t.Errorf("Revive: %v", e)
	}
	if out, e := m.Hear(api.Packet{To: 1}); out != nil || e != api.ErrArg {
		t.Errorf("Hear: %v", e)
	}
}

// TestNew: P26.1.
func TestNew(t *testing.T) {
	for i, r := range []struct {
		c               api.Config
		me, room, bound int
		want            api.Errno
	}{
		{api.Config{}, 0, 900, 1, api.ErrArg}, {config(2), -1, 900, 1, api.ErrArg}, {config(2), 2, 900, 1, api.ErrArg}, {config(2), 0, 0, 1, api.ErrArg}, {config(2), 0, api.MaxRoom + 1, 1, api.ErrArg}, {config(2), 0, math.MinInt, 1, api.ErrArg},
		{config(2), 0, 900, 0, api.ErrArg}, {config(2), 0, 900, api.MaxBound + 1, api.ErrArg}, {config(2), 0, 4, 0, api.ErrArg}, {config(2), 0, 4, 1, api.ErrFull}, {config(2), 1, 5, api.MaxBound, api.OK}, {config(2), 1, api.MaxRoom, 1, api.OK},
	} {
		if m, e := manager.New(r.c, r.me, r.room, r.bound); e != r.want || (m == nil) == (e == api.OK) {
			t.Errorf("%d: %v, not %v", i, e, r.want)
		}
	}
}

// TestLaysBy: P26.1, behind each event, where there are more records than the bound.
func TestLaysBy(t *testing.T) {
	m := open(t, config(1), 0, 2000, 3)
	for i, want := range []int{1, 2, 3, 0, 1, 2, 3, 0} {
		if _, _, e := m.Do(tick); e != api.OK || m.Records() != want || m.Node().Now != int64(i+1) {
			t.Errorf("event %d: %v, %d records", i, e, m.Records())
		}
	}
	// No room for an image: it is refused, and that is all.
	small := open(t, config(1), 0, 60, 1)
	for i := range 9 {
		if _, _, e := small.Do(tick); e != api.OK || small.Records() != i+1 || !small.Up() {
			t.Errorf("event %d: %v, %d records", i, e, small.Records())
		}
	}
	if a, out, e := small.Do(tick); e != api.ErrFull || a != (api.Answer{}) || out != nil || !small.Up() || small.Node().Now != 9 {
		t.Errorf("no room: %v", e)
	}
}

// TestStopped: P26.1, P26.2, where it goes down, and what was done.
func TestStopped(t *testing.T) {
	for stop := range 8 {
		m := open(t, config(1), 0, 2000, 1)
		m.Do(tick)
		if e := m.Stop(stop); e != api.OK || !m.Up() {
			t.Fatalf("Stop: %v", e)
		}
		a, _, e := m.Do(acquire(0, api.ModeX))
		done := stop >= 2
		if done != (e == api.OK) || !done && (e != api.ErrStopped || a != (api.Answer{})) || done && a.State != api.StateHeld || m.Up() != (stop >= 6) {
			t.Errorf("stop %d: %v %v, up %v", stop, a, e, m.Up())
		}
		if m.Up() {
			continue
		}
		out, e := m.Revive()
		held := len(tickets(m))
		if e != api.OK || len(out) != 0 || m.Node().Now != 1 || m.Node().Link.Inc != 2 || done && held != 1 || stop == 0 && held != 0 {
			t.Errorf("stop %d: revived %v, %d held", stop, e, held)
		}
	}
}

// TestReviveWrong: P26.2, what refuses a revival leaves it down; it may be tried again.
func TestReviveWrong(t *testing.T) {
	m := open(t, config(1), 0, 2000, 9)
	m.Do(tick)
	m.Crash([2]int{})
	for stop := range 2 {
		if e := m.Stop(stop); e != api.OK {
			t.Errorf("Stop: %v", e)
		}
		out, e := m.Revive()
		if stop == 0 && (e != api.OK || !m.Up()) || stop == 1 && (e != api.ErrStopped || m.Up()) || out != nil {
			t.Errorf("stop %d: %v", stop, e)
		}
		m.Crash([2]int{0, math.MaxInt})
	}
	if _, e := m.Revive(); e != api.OK || m.Node().Now != 1 {
		t.Errorf("Revive: %v", e)
	}
	full := open(t, config(1), 0, 12, 9)
	full.Do(tick)
	full.Crash([2]int{})
	if _, e := full.Revive(); e != api.ErrFull || full.Up() {
		t.Errorf("no room for a restart: %v", e)
	}
	for _, keep := range [][2]int{{-1, 0}, {0, -1}} {
		up := open(t, config(1), 0, 900, 9)
		if e := up.Crash(keep); e != api.ErrArg || !up.Up() {
			t.Errorf("Crash(%v): %v", keep, e)
		}
	}
	if e := m.Stop(-1); e != api.ErrArg {
		t.Errorf("Stop: %v", e)
	}
}

// TestHear: P26.1, the errors in their order.
func TestHear(t *testing.T) {
	c := config(2)
	a, b := open(t, c, 0, 2000, 9), open(t, c, 1, 2000, 9)
	_, out, e := b.Do(acquire(0, api.ModeX))
	if e != api.OK || len(out) != 1 {
		t.Fatalf("Do: %v %v", out, e)
	}
	back, e := a.Hear(out[0])
	if e != api.OK || len(back) != 2 || back[0].To != 1 || a.Records() != 1 {
		t.Errorf("Hear: %v %v", back, e)
	}
	if _, e := b.Hear(back[0]); e != api.OK || len(tickets(b)) != 1 || tickets(b)[0] != (ticket{api.Ticket{Node: 1, Use: 1}, api.StateHeld}) {
		t.Errorf("Hear: %v %v", e, tickets(b))
	}
	if out, e := a.Hear(api.Packet{From: 1, To: 0, Bytes: []byte("noise")}); out != nil || e != api.OK {
		t.Errorf("noise: %v", e)
	}
	a.Crash([2]int{})
	for _, p := range []api.Packet{{From: 0, To: 0}, {From: 2, To: 0}, {From: -1, To: 0}, {From: 0, To: 1}, {From: 1, To: 2}} {
		if out, e := a.Hear(p); out != nil || e != api.ErrArg {
			t.Errorf("Hear(%v): %v", p, e)
		}
	}
	if out, e := a.Hear(out[0]); out != nil || e != api.ErrDown {
		t.Errorf("Hear: %v", e)
	}
	if _, _, e := b.Do(api.Event{Kind: api.EventHear, From: 1}); e != api.ErrArg || !b.Up() {
		t.Errorf("Do: %v", e)
	}
	if _, e := b.Hear(api.Packet{From: 0, To: 1, Bytes: make([]byte, api.MaxFrame)}); e != api.ErrLong || !b.Up() {
		t.Errorf("a long one: %v", e)
	}
}

// TestNil: of no manager, and of one that no call made.
func TestNil(t *testing.T) {
	for _, m := range []*manager.Manager{nil, {}} {
		a, out, e1 := m.Do(api.Event{})
		x, e2 := m.Hear(api.Packet{})
		y, e3 := m.Revive()
		if e1 != api.ErrNil || e2 != api.ErrNil || e3 != api.ErrNil || m.Stop(-1) != api.ErrNil || m.Crash([2]int{-1, 0}) != api.ErrNil || a != (api.Answer{}) || out != nil || x != nil || y != nil {
			t.Errorf("no manager does something: %v %v %v", e1, e2, e3)
		}
		if m.Up() || m.Records() != 0 || !node.Same(m.Node(), api.Node{}) || len(tickets(m)) != 0 {
			t.Error("no manager tells something")
		}
	}
}

// TestTickets: P26.3, by locks, then slots; left at any time, gone over again.
func TestTickets(t *testing.T) {
	m := open(t, config(1), 0, 2000, 9)
	m.Do(acquire(1, api.ModeS))
	m.Do(acquire(0, api.ModeX))
	m.Do(acquire(0, api.ModeS))
	m.Do(acquire(1, api.ModeS))
	m.Do(api.Event{Kind: api.EventAsk, Ask: api.Ask{Kind: api.AskRelease, Lock: 1, Use: 1}})
	seq := m.Tickets()
	for range 2 {
		var l []ticket
		for t, s := range seq {
			l = append(l, ticket{t, s})
		}
		want := []ticket{{api.Ticket{Use: 1}, api.StateHeld}, {api.Ticket{Slot: 1, Use: 1}, api.StatePending}, {api.Ticket{Lock: 1, Slot: 1, Use: 1}, api.StateHeld}}
		if len(l) != 3 || l[0] != want[0] || l[1] != want[1] || l[2] != want[2] {
			t.Errorf("Tickets: %v", l)
		}
	}
	for x := range seq {
		if x != (api.Ticket{Use: 1}) {
			t.Errorf("first: %v", x)
		}
		break
	}
}

// TestLife: P26.4, whatever stops, crashes and revivals come between.
func TestLife(t *testing.T) {
	r := rand.New(rand.NewSource(24))
	c := config(2)
	restart := api.Event{Kind: api.EventRestart}
	step := func(n api.Node, x api.Event) api.Node {
		after, _, _, e := node.Step(c, n, x)
		if e != api.OK {
			t.Fatalf("%v: %v", x, e)
		}
		return after
	}
	for range 120 {
		m := open(t, c, 0, 4000, 1+r.Intn(9))
		maybe := []api.Node{m.Node()}
		for range 60 {
			x := []api.Event{tick, acquire(r.Intn(2), api.Mode(1+r.Intn(5))), {Kind: api.EventHear, From: 1, Bytes: []byte{1}}, tick}[r.Intn(4)]
			switch r.Intn(9) {
			case 0:
				m.Stop(r.Intn(20))
			case 1:
				m.Crash([2]int{r.Intn(40), r.Intn(40)})
			case 2:
				if _, e := m.Revive(); e == api.OK {
					for i, n := range maybe {
						maybe[i] = step(n, restart)
					}
				} else if e == api.ErrStopped && len(maybe) > 0 {
					for _, n := range maybe {
						maybe = append(maybe, step(n, restart))
					}
				}
			default:
				if _, _, e := m.Do(x); e == api.OK {
					maybe = []api.Node{step(maybe[0], x)}
				} else if e == api.ErrStopped {
					maybe = append(maybe, step(maybe[0], x))
				}
			}
			if !m.Up() {
				continue
			}
			is := -1
			for i, n := range maybe {
				if node.Same(m.Node(), n) {
					is = i
				}
			}
			if is < 0 {
				t.Fatalf("%v is none of %d that may be", m.Node(), len(maybe))
			}
			maybe = []api.Node{maybe[is]}
		}
	}
}
