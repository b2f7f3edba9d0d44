package lock

import (
	"castellan/api"
	"castellan/escrow"
	"castellan/owner"
	"castellan/refuse"
	"castellan/site"
	"castellan/slot"
	"castellan/stat"
	"castellan/token"
)

// within tells whether a number is one from the first to the last.
func within(first, n, last int64) bool { return first <= n && n <= last }

// look is a lock at a place, and how many sites it has: asks of whether it may be.
type look struct {
	place api.Place
	lock  api.Lock
	sites int
}

// places asks whether the place may be.
func (k *look) places() bool {
	p := k.place
	bounds := [...][3]int64{
		{0, int64(p.Me), int64(p.Shape.Nodes) - 1},
		{0, int64(p.Lock), int64(p.Shape.Locks) - 1},
		{0, int64(p.Limit), api.MaxAge},
		{1, p.Retry, api.MaxTick},
		{1, p.Far, api.MaxTick},
		{0, p.Now, api.MaxTick},
	}
	for _, b := range bounds {
		if !within(b[0], b[1], b[2]) {
			return false
		}
	}
	return true
}

// tokens asks whether the token, and its Hop, may be: there is none only where none was ever sent.
func (k *look) tokens() bool {
	l := k.lock
	if l.Last == 0 {
		return !l.Has && token.Same(l.Token, api.Token{})
	}
	return l.Last > 0 && l.Token.Hop == l.Last && token.Check(k.place.Shape, l.Token) == api.OK
}

// guesses asks whether the guess may be.
func (k *look) guesses() bool { return owner.Check(k.place.Shape, k.lock.Own) == api.OK }

// knows asks whether what is known may be.
func (k *look) knows() bool {
	if len(k.lock.Known) != k.sites {
		return false
	}
	for _, x := range k.lock.Known {
		if stat.Check(x) != api.OK {
			return false
		}
	}
	return true
}

// slots asks whether the slots may be, and are known as they are.
func (k *look) slots() bool {
	if slot.Check(k.place.Shape, k.lock.Slots) != api.OK {
		return false
	}
	first := k.place.Me * k.place.Shape.Slots
	for at, x := range slot.Stats(k.lock.Slots) {
		if k.lock.Known[first+at] != x {
			return false
		}
	}
	return true
}

// tries asks whether the tries may be.
func (k *look) tries() bool {
	if len(k.lock.Tries) != k.place.Shape.Slots {
		return false
	}
	for _, t := range k.lock.Tries {
		if !within(-1, t.Sent, api.MaxTick) || !within(0, t.Heard, api.MaxTick) || !within(0, t.Over, api.MaxUse) {
			return false
		}
	}
	return true
}

// looked is a look at a lock at a place, if that may be.
func looked(p api.Place, l api.Lock) *look {
	many, e := site.Sites(p.Shape)
	refuse.Must(e)
	k := &look{p, l, many}
	refuse.Need(k.places(), api.ErrArg)
	return k
}

// right gives up, where a place or a lock may not be; later asks lean on those ahead.
func right(p api.Place, l api.Lock) *look {
	k := looked(p, l)
	asks := [...]func() bool{k.tokens, k.guesses, k.knows, k.slots, k.tries}
	for _, ask := range asks {
		refuse.Need(ask(), api.ErrArg)
	}
	return k
}

// says asks whether what a message's kind names may be.
func (k *look) says(m api.Message) bool {
	hop := within(0, m.Hop, api.MaxHop)
	there := within(0, int64(m.Site), int64(k.sites)-1)
	switch m.Kind {
	case api.MsgStat, api.MsgAck:
		return hop && there && stat.Check(m.Stat) == api.OK
	case api.MsgGrant:
		return hop && there && within(1, m.Use, api.MaxUse) && within(int64(api.ModeIS), int64(m.Mode), int64(api.ModeSIX)) && escrow.Check(m.Counter) == api.OK
	case api.MsgToken:
		return token.Check(k.place.Shape, m.Token) == api.OK
	}
	return false
}
