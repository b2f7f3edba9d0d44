package node

import (
	"castellan/api"
	"castellan/call"
	"castellan/epoch"
	"castellan/escrow"
	"castellan/link"
	"castellan/lock"
	"castellan/refuse"
	"castellan/report"
	"castellan/site"
)

// within tells whether a number is one from the first to the last.
func within(first, n, last int64) bool { return first <= n && n <= last }

// configs gives up, where a config, or a node's number, may not be.
func configs(c api.Config, me int) {
	refuse.Need(site.Check(c.Shape) == api.OK && len(c.Forms) == c.Shape.Locks, api.ErrArg)
	bounds := [...][3]int64{
		{0, int64(c.Limit), api.MaxAge},
		{1, c.Retry, api.MaxSpan},
		{1, c.Far, api.MaxSpan},
		{c.Retry + 1, c.Suspect, api.MaxSpan},
		{0, c.Apart, api.MaxSpan},
		{0, int64(me), int64(c.Shape.Nodes) - 1},
	}
	for _, b := range bounds {
		refuse.Need(within(b[0], b[1], b[2]), api.ErrArg)
	}
	each(c.Forms, func(_ int, f *api.Form) { refuse.Need(escrow.Check(f.Counter) == api.OK, api.ErrArg) })
}

// place tells where a node's lock stands.
func place(c api.Config, n api.Node, at int) api.Place {
	return api.Place{Shape: c.Shape, Me: n.Me, Lock: at, Limit: c.Limit, Retry: c.Retry, Far: c.Far, Now: n.Now, Still: n.Promise.Frozen}
}

// votes asks whether what a node waits for may be.
func votes(c api.Config, n api.Node) bool {
	if !n.Votes {
		return len(n.Tally.Reports) == 0
	}
	_, e := report.Decide(c.Shape, n.Tally)
	return n.Promise.Frozen && n.Promise.Epoch.Node == n.Me && e != api.ErrArg
}

// right gives up, where a config or a node may not be.
func right(c api.Config, n api.Node) {
	configs(c, n.Me)
	refuse.Need(within(0, n.Now, api.MaxTick) && within(0, n.Since, api.MaxTick), api.ErrArg)
	refuse.Need(link.Check(n.Link) == api.OK && len(n.Link.Out) == c.Shape.Nodes, api.ErrArg)
	refuse.Need(epoch.Check(c.Shape, n.Promise.Epoch) == api.OK && votes(c, n), api.ErrArg)
	refuse.Need(len(n.Locks) == c.Shape.Locks, api.ErrArg)
	each(n.Locks, func(at int, l *api.Lock) { refuse.Must(lock.Check(place(c, n, at), *l)) })
}

// bare tells whether an event names nothing but its kind.
func bare(x api.Event) bool { return x.Ask == api.Ask{} && x.From == 0 && len(x.Bytes) == 0 }

// may gives up, where an event may not be.
func may(c api.Config, me int, x api.Event) {
	switch x.Kind {
	case api.EventAsk:
		refuse.Must(call.Check(c.Shape, x.Ask))
		x.Ask = api.Ask{}
		refuse.Need(bare(x), api.ErrArg)
	case api.EventHear:
		refuse.Need(x.Ask == api.Ask{} && within(0, int64(x.From), int64(c.Shape.Nodes)-1) && x.From != me, api.ErrArg)
	case api.EventTick, api.EventRestart:
		refuse.Need(bare(x), api.ErrArg)
	default:
		refuse.Must(api.ErrArg)
	}
}
