package node

import (
	"castellan/api"
	"castellan/deep"
	"castellan/epoch"
	"castellan/link"
	"castellan/lock"
	"castellan/message"
	"castellan/refuse"
	"castellan/report"
	"castellan/slot"
)

// work is a node under way, of a config, and the packets that go out.
type work struct {
	api.Node
	config  api.Config
	packets []api.Packet
}

// begin begins to work on a node that may be, in memory of its own.
func begin(c api.Config, n api.Node) *work { return &work{Node: deep.Node(n), config: c} }

// step does what an event of its kind does.
func (w *work) step(x api.Event) api.Answer {
	events := map[api.EventKind]func(*work, api.Event) api.Answer{
		api.EventAsk:     (*work).asked,
		api.EventTick:    (*work).ticked,
		api.EventHear:    (*work).heard,
		api.EventRestart: (*work).restarted,
	}
	return events[x.Kind](w, x)
}

// place tells where a lock stands.
func (w *work) place(at int) api.Place { return place(w.config, w.Node, at) }

// post sends a message to a node; what has no stamp any more, or can't be told as bytes, is left out.
func (w *work) post(to int, m api.Message) {
	l, stamp, e := link.Send(w.Link, to)
	if e != api.OK {
		return
	}
	m.Stamp, m.Epoch = stamp, w.Promise.Epoch
	b, e := message.Bytes(w.config.Shape, m)
	if e != api.OK {
		return
	}
	w.Link = l
	w.packets = append(w.packets, api.Packet{From: w.Me, To: to, Bytes: b})
}

// others does something for each other node, rising.
func (w *work) others(do func(to int)) {
	each(w.Link.Out, func(to int, _ *int64) {
		if to != w.Me {
			do(to)
		}
	})
}

// lay lays a lock in its place, and sends its letters.
func (w *work) lay(at int, l api.Lock, letters []api.Letter) {
	w.Locks[at] = l
	each(letters, func(_ int, x *api.Letter) { w.post(x.To, x.Message) })
}

// settle lets all locks settle, rising.
func (w *work) settle() {
	each(w.Locks, func(at int, l *api.Lock) {
		after, letters, e := lock.Settle(w.place(at), *l)
		refuse.Must(e)
		w.lay(at, after, letters)
	})
}

// asked answers what is asked; an error is answered alone.
func (w *work) asked(x api.Event) api.Answer {
	asks := map[api.AskKind]func(*work, api.Ask) api.Answer{
		api.AskAcquire: (*work).acquire,
		api.AskTry:     (*work).try,
		api.AskCancel:  (*work).end,
		api.AskRelease: (*work).end,
		api.AskPoll:    (*work).poll,
		api.AskRead:    (*work).read,
		api.AskChange:  (*work).change,
	}
	return asks[x.Ask.Kind](w, x.Ask)
}

// refused answers an error.
func refused(e api.Errno) api.Answer { return api.Answer{Errno: e} }

// ticket answers a ticket, and its state.
func (w *work) ticket(at, n int) api.Answer {
	x := w.Locks[at].Slots[n]
	return api.Answer{Slot: n, Use: x.Use, State: x.State}
}

// open lets a slot be pending.
func (w *work) open(at int, want api.Want) (int, api.Errno) {
	l, n, letters, e := lock.Acquire(w.place(at), w.Locks[at], want)
	if e == api.OK {
		w.lay(at, l, letters)
	}
	return n, e
}

// close ends a ticket.
func (w *work) close(at int, t api.Ticket, held bool) api.Errno {
	l, letters, e := lock.End(w.place(at), w.Locks[at], t, held)
	if e == api.OK {
		w.lay(at, l, letters)
	}
	return e
}

// acquire answers AskAcquire.
func (w *work) acquire(a api.Ask) api.Answer {
	due := int64(0)
	if a.Ticks != 0 {
		due = min(w.Now+a.Ticks, api.MaxTick)
	}
	n, e := w.open(a.Lock, api.Want{Mode: a.Mode, Prio: a.Prio, Due: due})
	if e != api.OK {
		return refused(e)
	}
	return w.ticket(a.Lock, n)
}

// try answers AskTry: what is not held at once is cancelled again.
func (w *work) try(a api.Ask) api.Answer {
	if !w.Locks[a.Lock].Has || w.Promise.Frozen {
		return refused(api.ErrBusy)
	}
	n, e := w.open(a.Lock, api.Want{Mode: a.Mode, Prio: a.Prio})
	if e != api.OK {
		return refused(e)
	}
	x := w.ticket(a.Lock, n)
	if x.State != api.StateHeld {
		refuse.Must(w.close(a.Lock, api.Ticket{Slot: n, Use: x.Use}, false))
		return refused(api.ErrBusy)
	}
	return x
}

// of is the ticket that an ask names.
func of(a api.Ask) api.Ticket { return api.Ticket{Lock: a.Lock, Slot: a.Slot, Use: a.Use} }

// end answers AskCancel, AskRelease.
func (w *work) end(a api.Ask) api.Answer {
	if e := w.close(a.Lock, of(a), a.Kind == api.AskRelease); e != api.OK {
		return refused(e)
	}
	return w.ticket(a.Lock, a.Slot)
}

// poll answers AskPoll.
func (w *work) poll(a api.Ask) api.Answer {
	s, e := slot.Poll(w.config.Shape, w.Locks[a.Lock].Slots, a.Slot, a.Use)
	if e != api.OK {
		return refused(e)
	}
	return api.Answer{Slot: a.Slot, Use: a.Use, State: s}
}

// read answers AskRead.
func (w *work) read(a api.Ask) api.Answer {
	v, e := lock.Value(w.place(a.Lock), w.Locks[a.Lock], of(a))
	if e != api.OK {
		return refused(e)
	}
	return api.Answer{Slot: a.Slot, Use: a.Use, State: api.StateHeld, Value: v}
}

// change answers AskChange.
func (w *work) change(a api.Ask) api.Answer {
	l, e := lock.Change(w.place(a.Lock), w.Locks[a.Lock], of(a), a.By)
	if e != api.OK {
		return refused(e)
	}
	w.Locks[a.Lock] = l
	return api.Answer{Slot: a.Slot, Use: a.Use, State: api.StateHeld, Value: l.Token.Counter.Value}
}

// restarted lets the link restart, as long as it can.
func (w *work) restarted(api.Event) api.Answer {
	if l, e := link.Restart(w.Link); e == api.OK {
		w.Link = l
	}
	return api.Answer{}
}

// ticked lets a tick come, and votes, where it waited as long as its patience is.
func (w *work) ticked(api.Event) api.Answer {
	w.Now = min(w.Now+1, api.MaxTick)
	each(w.Locks, func(at int, l *api.Lock) {
		after, letters, e := lock.Tick(w.place(at), *l)
		refuse.Must(e)
		w.lay(at, after, letters)
	})
	if w.patient(w.Since) {
		return api.Answer{}
	}
	if w.Promise.Frozen || w.unheard() {
		w.vote()
	}
	return api.Answer{}
}

// patient tells whether a tick is less ahead of now than the patience is.
func (w *work) patient(since int64) bool {
	return w.Now-since < w.config.Suspect+w.config.Apart*int64(w.Me)
}

// unheard tells whether a slot that wants to be told was not heard of for as long as the patience is.
func (w *work) unheard() bool {
	for at, l := range w.Locks {
		for _, heard := range lock.Wants(w.place(at), l) {
			if !w.patient(heard) {
				return true
			}
		}
	}
	return false
}

// report tells its own report.
func (w *work) report() []api.Report {
	var r []api.Report
	each(w.Locks, func(_ int, l *api.Lock) { r = append(r, lock.Report(*l)) })
	return r
}

// rests lets it vote no more.
func (w *work) rests() { w.Votes, w.Tally = false, api.Tally{} }

// vote asks all other nodes for an epoch of its own, if there is a next one.
func (w *work) vote() {
	w.Since = w.Now
	next, e := epoch.Next(w.config.Shape, w.Promise.Epoch, w.Me)
	if e != api.OK {
		return
	}
	w.Promise = api.Promise{Epoch: next, Frozen: true}
	t, e := report.New(w.config.Shape)
	refuse.Must(e)
	w.Votes, w.Tally = true, t
	w.others(func(to int) { w.post(to, api.Message{Kind: api.MsgAsk}) })
	w.count(w.Me, w.report())
}

// count adds a node's report; if that was the last one, the epoch begins.
func (w *work) count(from int, r []api.Report) {
	t, whole, e := report.Add(w.config.Shape, w.Tally, from, r)
	if e != api.OK {
		return
	}
	w.Tally = t
	if !whole {
		return
	}
	if backs, e := report.Decide(w.config.Shape, t); e == api.OK {
		w.start(backs)
	}
}

// start lets the epoch begin, and tells who takes back what.
func (w *work) start(backs []api.Back) {
	w.wake()
	w.others(func(to int) { w.post(to, api.Message{Kind: api.MsgStart, Backs: report.Of(backs, to)}) })
	w.takeBack(report.Of(backs, w.Me))
	w.settle()
}

// takeBack lets locks take back their tokens.
func (w *work) takeBack(l []api.Back) {
	each(l, func(_ int, b *api.Back) {
		after, _, e := lock.Back(w.place(b.Lock), w.Locks[b.Lock], b.Hop)
		refuse.Must(e)
		w.Locks[b.Lock] = after
	})
}

// wake lets it be frozen no more.
func (w *work) wake() {
	w.Promise.Frozen = false
	w.rests()
	w.Since = w.Now
	each(w.Locks, func(_ int, l *api.Lock) {
		each(l.Tries, func(_ int, t *api.Try) { t.Sent, t.Heard = -1, w.Now })
	})
}

// heard lets a message come, if its stamp is taken.
func (w *work) heard(x api.Event) api.Answer {
	m, e := message.Read(w.config.Shape, x.Bytes)
	if e != api.OK {
		return api.Answer{}
	}
	l, taken, e := link.Take(w.Link, x.From, m.Stamp)
	if e != api.OK || !taken {
		return api.Answer{}
	}
	w.Link = l
	comes := map[api.MsgKind]func(*work, int, api.Message){
		api.MsgAsk:    (*work).hearAsk,
		api.MsgReport: (*work).hearReport,
		api.MsgStart:  (*work).hearStart,
	}
	do, ok := comes[m.Kind]
	if !ok {
		do = (*work).hearLock
	}
	do(w, x.From, m)
	return api.Answer{}
}

// hearAsk hears that an epoch is asked for.
func (w *work) hearAsk(from int, m api.Message) {
	p, other, e := epoch.Ask(w.config.Shape, w.Promise, m.Epoch)
	refuse.Must(e)
	if other {
		w.rests()
		w.Promise, w.Since = p, w.Now
		if m.Epoch.Node != w.Me {
			w.post(m.Epoch.Node, api.Message{Kind: api.MsgReport, Reports: w.report()})
		}
		return
	}
	if epoch.Order(m.Epoch, w.Promise.Epoch) < 0 {
		w.post(from, api.Message{Kind: api.MsgAsk})
	}
}

// hearReport hears what a node reports.
func (w *work) hearReport(from int, m api.Message) {
	if w.Votes && m.Epoch == w.Promise.Epoch {
		w.count(from, m.Reports)
	}
}

// counts tells whether what comes counts; if so it wakes, if it is frozen, and tells that too.
func (w *work) counts(m api.Message) (counts, woke bool) {
	_, counts, e := epoch.Hear(w.config.Shape, w.Promise, m.Epoch)
	refuse.Must(e)
	woke = counts && w.Promise.Frozen
	if woke {
		w.wake()
	}
	return counts, woke
}

// hearStart hears that the epoch began.
func (w *work) hearStart(_ int, m api.Message) {
	if ok, _ := w.counts(m); !ok {
		return
	}
	w.takeBack(report.Of(m.Backs, w.Me))
	w.settle()
}

// hearLock hears what a lock is to hear.
func (w *work) hearLock(from int, m api.Message) {
	ok, woke := w.counts(m)
	if !ok {
		return
	}
	if woke {
		w.settle()
	}
	l, letters, e := lock.Hear(w.place(m.Lock), w.Locks[m.Lock], from, m)
	refuse.Must(e)
	w.lay(m.Lock, l, letters)
}
