package lock

import (
	"iter"

	"castellan/api"
	"castellan/deep"
	"castellan/escrow"
	"castellan/hold"
	"castellan/mode"
	"castellan/owner"
	"castellan/refuse"
	"castellan/site"
	"castellan/slot"
	"castellan/stat"
	"castellan/token"
	"castellan/wait"
)

// work is a lock under way, at its place, and the letters that go out.
type work struct {
	api.Lock
	look    *look
	place   api.Place
	letters []api.Letter
}

// begin begins to work on a lock that may be, in memory of its own.
func begin(p api.Place, l api.Lock) *work {
	return &work{Lock: deep.Lock(l), look: right(p, l), place: p}
}

// open is a lock whose slots were never used.
func open(p api.Place, tree bool, c api.Counter) api.Lock {
	looked(p, api.Lock{})
	refuse.Must(escrow.Check(c))
	known, e := stat.New(p.Shape)
	refuse.Must(e)
	slots, e := slot.New(p.Shape)
	refuse.Must(e)
	home := p.Lock % p.Shape.Nodes
	l := api.Lock{Tree: tree, Own: api.Owner{Node: home, Hop: 1}, Known: known, Slots: slots, Tries: make([]api.Try, p.Shape.Slots)}
	for at := range l.Tries {
		l.Tries[at].Sent = -1
	}
	if home == p.Me {
		t, e := token.New(p.Shape, c)
		refuse.Must(e)
		t.Hop = 1
		l.Has, l.Token, l.Last = true, t, 1
	}
	return l
}

// put lays things behind others.
func put[T any](l *[]T, more ...T) { *l = append(*l, more...) }

// send lays a letter behind the others; where the place is still, nothing is sent.
func (w *work) send(to int, m api.Message) {
	if w.place.Still {
		return
	}
	m.Lock = w.place.Lock
	put(&w.letters, api.Letter{To: to, Message: m})
}

// site tells that of an own slot.
func (w *work) site(at int) int { return w.place.Me*w.place.Shape.Slots + at }

// of tells the node and the slot of a site.
func (w *work) of(at int) (node, place int) {
	node, place, e := site.Of(w.place.Shape, at)
	refuse.Must(e)
	return node, place
}

// own tells the slot of an own site.
func (w *work) own(at int) (int, bool) {
	node, place := w.of(at)
	return place, node == w.place.Me
}

// status tells an own slot's status.
func (w *work) status(at int) api.Stat {
	for n, x := range slot.Stats(w.Slots) {
		if n == at {
			return x
		}
	}
	return api.Stat{}
}

// held asks for the slot of a ticket that is held in a mode that may do what is asked.
func (w *work) held(t api.Ticket, may func(api.Mode) bool) {
	state, e := slot.Poll(w.place.Shape, w.Slots, t.Slot, t.Use)
	refuse.Must(e)
	refuse.Need(state == api.StateHeld && may(w.Slots[t.Slot].Mode), api.ErrRight)
}

// wanting tells whether a slot wants to be told.
func (w *work) wanting(at int) bool {
	x := w.Slots[at]
	return !w.Has && (x.State == api.StatePending || x.State != api.StateHeld && x.Use > w.Tries[at].Over)
}

// wants goes over the slots that want to be told, each with its Heard.
func (w *work) wants() iter.Seq2[int, int64] {
	return func(yield func(int, int64) bool) {
		for at, t := range w.Tries {
			if w.wanting(at) && !yield(at, t.Heard) {
				return
			}
		}
	}
}

// tell tells a slot: its status goes where the token probably is, or to all.
func (w *work) tell(at int) {
	if w.place.Still {
		return
	}
	t := &w.Tries[at]
	far := w.place.Now-t.Heard >= w.place.Far
	nodes, e := owner.First(w.place.Shape, w.place.Me, w.Own, !w.Tree || far)
	refuse.Must(e)
	for _, to := range nodes {
		w.send(to, api.Message{Kind: api.MsgStat, Site: w.site(at), Stat: w.status(at), Hop: w.Own.Hop})
	}
	t.Sent = w.place.Now
}

// changes lets it be known what a slot's status is.
func (w *work) changes(at int) {
	w.Known[w.site(at)] = w.status(at)
	w.Tries[at].Heard = w.place.Now
}

// happens lets something have happened to a slot.
func (w *work) happens(at int) {
	w.changes(at)
	if w.Has {
		w.settle()
		return
	}
	w.tell(at)
}

// tick lets slots be late, and then settles, or tells those that want to be told.
func (w *work) tick() {
	slots, late, e := slot.Late(w.place.Shape, w.Slots, w.place.Now)
	refuse.Must(e)
	w.Slots = slots
	for _, at := range late {
		w.changes(at)
		w.Tries[at].Sent = -1
	}
	if w.Has {
		w.settle()
		return
	}
over:
	for at := range w.wants() {
		if w.place.Still {
			break over
		}
		if sent := w.Tries[at].Sent; sent == -1 || w.place.Now-sent >= w.place.Retry {
			w.tell(at)
		}
	}
}

// back takes the token back at a Hop, if it is the one that was sent last.
func (w *work) back(hop int64) bool {
	if w.Has || hop == 0 || hop != w.Last || hop >= api.MaxHop {
		return false
	}
	w.Token.Hop++
	w.take(w.Token)
	return true
}

// take takes a token.
func (w *work) take(t api.Token) {
	w.Has, w.Token, w.Last = true, deep.Token(t), t.Hop
	w.Own = api.Owner{Node: w.place.Me, Hop: t.Hop}
}

// settle lets the token learn, lets who is next hold, and sends it on where it must go.
func (w *work) settle() {
	var more bool
	if !w.Has || w.place.Still {
		return
	}
again:
	w.learn()
	if to, goes, e := token.Goes(w.place.Shape, w.Token, w.place.Me); e == api.OK && goes {
		w.pass(to)
		return
	}
	more = w.grant()
	if more {
		goto again
	}
}

// learn lets the token learn what is known, and own slots what the token knows of them.
func (w *work) learn() {
	t, e := token.Learn(w.place.Shape, w.Token, w.Known)
	refuse.Must(e)
	w.Token = t
	for at := range w.Slots {
		w.Tries[at].Over = t.Over[w.site(at)]
		if h, ok := hold.Find(t.Holds, w.site(at)); ok {
			w.granted(at, h, t.Counter)
		}
	}
}

// granted lets a slot be held, if it is pending, of that use and mode.
func (w *work) granted(at int, h api.Hold, c api.Counter) bool {
	slots, ok, e := slot.Grant(w.place.Shape, w.Slots, at, h.Use, h.Mode, c)
	refuse.Must(e)
	w.Slots = slots
	return ok
}

// pass sends the token to a node; at its last Hop it stays.
func (w *work) pass(to int) {
	if w.Token.Hop >= api.MaxHop {
		return
	}
	w.Token.Hop++
	w.Has, w.Last = false, w.Token.Hop
	w.Own = api.Owner{Node: to, Hop: w.Last}
	for at := range w.Tries {
		w.Tries[at].Heard = w.place.Now
	}
	w.send(to, api.Message{Kind: api.MsgToken, Token: deep.Token(w.Token)})
}

// grant lets the next one hold, and tells its node.
func (w *work) grant() bool {
	t, h, ok, e := token.Grant(w.place.Shape, w.Token, w.place.Limit)
	refuse.Must(e)
	w.Token = t
	if ok {
		w.inform(h)
	}
	return ok
}

// inform tells another node that its site holds, where the token need not go there.
func (w *work) inform(h api.Hold) {
	node, _ := w.of(h.Site)
	if node == w.place.Me || mode.Writes(h.Mode) {
		return
	}
	w.send(node, api.Message{Kind: api.MsgGrant, Site: h.Site, Use: h.Use, Mode: h.Mode, Hop: w.Token.Hop, Counter: w.Token.Counter})
}

// hear hears a message that may be.
func (w *work) hear(from int, m api.Message) {
	comes := map[api.MsgKind]func(*work, int, api.Message){
		api.MsgStat:  (*work).hearStat,
		api.MsgAck:   (*work).hearAck,
		api.MsgGrant: (*work).hearGrant,
		api.MsgToken: (*work).hearToken,
	}
	do, ok := comes[m.Kind]
	there := within(0, int64(from), int64(w.place.Shape.Nodes)-1)
	refuse.Need(ok && there && m.Lock == w.place.Lock && w.look.says(m), api.ErrArg)
	do(w, from, m)
}

// hearStat hears a site's status.
func (w *work) hearStat(_ int, m api.Message) {
	node, _ := w.of(m.Site)
	if node == w.place.Me {
		return
	}
	known, _, e := stat.Learn(w.place.Shape, w.Known, m.Site, m.Stat)
	refuse.Must(e)
	w.Known = known
	if w.Has {
		w.reply(node, m)
		return
	}
	if w.Tree {
		w.forward(node, m)
	}
}

// reply settles, and answers a site's status: what it holds already it may not have heard.
func (w *work) reply(node int, m api.Message) {
	hop := w.Token.Hop
	h, held := hold.Find(w.Token.Holds, m.Site)
	w.settle()
	if held && m.Stat.Pending && h.Use == m.Stat.Over+1 && w.Has {
		w.inform(h)
	}
	w.send(node, api.Message{Kind: api.MsgAck, Site: m.Site, Stat: w.knows(m.Site), Hop: hop})
}

// knows tells what the token knows of a site.
func (w *work) knows(at int) api.Stat {
	x := api.Stat{Over: w.Token.Over[at]}
	if n, ok := wait.Find(w.Token.Wait, at); ok {
		x.Pending, x.Mode, x.Prio = true, w.Token.Wait[n].Mode, w.Token.Wait[n].Prio
	}
	if h, ok := hold.Find(w.Token.Holds, at); ok {
		x.Pending, x.Mode = true, h.Mode
	}
	return x
}

// forward lets a status go on to where the token probably is.
func (w *work) forward(node int, m api.Message) {
	to, on, e := owner.On(w.place.Shape, w.place.Me, api.Seek{Own: w.Own, Origin: node, Hop: m.Hop})
	refuse.Must(e)
	if on {
		w.send(to.Node, api.Message{Kind: api.MsgStat, Site: m.Site, Stat: m.Stat, Hop: to.Hop})
	}
}

// guess guesses that a node had the token at a Hop, if that is better.
func (w *work) guess(node int, hop int64) {
	w.Own = owner.Better(w.Own, api.Owner{Node: node, Hop: hop})
}

// hearAck hears what the token knows of a site.
func (w *work) hearAck(from int, m api.Message) {
	w.guess(from, m.Hop)
	if at, mine := w.own(m.Site); mine {
		t := &w.Tries[at]
		t.Heard, t.Over = w.place.Now, max(t.Over, m.Stat.Over)
	}
}

// hearGrant hears that a site holds; where the place is still, nothing is granted.
func (w *work) hearGrant(from int, m api.Message) {
	w.guess(from, m.Hop)
	at, mine := w.own(m.Site)
	if !mine || w.place.Still {
		return
	}
	if w.granted(at, api.Hold{Site: m.Site, Use: m.Use, Mode: m.Mode}, m.Counter) {
		w.Tries[at].Heard = w.place.Now
	}
}

// hearToken hears the token, if it is a later one.
func (w *work) hearToken(_ int, m api.Message) {
	if w.Has || m.Token.Hop <= w.Last {
		return
	}
	w.take(m.Token)
	w.settle()
}
