// Package book tells, out of notes and modes alone, what layer 30 asks of a world: what a counter may be, which tickets were told, what is held apart.
package book

import (
	"maps"
	"slices"

	"castellan/api"
	"castellan/escrow"
	"castellan/mode"
)

// values are the possible values of a counter.
type values map[int64]struct{}

// changed are those that some values may be, so changed.
func (v values) changed(floor, by int64) values {
	after := values{}
	for x := range v {
		if c, e := escrow.Change(api.Counter{Value: x, Floor: floor}, by); e == api.OK {
			after[c.Value] = struct{}{}
		}
	}
	return after
}

// answered tells whether a note, and its answer, are without an error.
func answered(n api.Note) bool { return n.Errno == api.OK && n.Answer.Errno == api.OK }

// Values tells the possible values of a lock's counter, rising, and whether each answer was one of them; ErrLong, where there are too many.
func Values(c api.Counter, lock int, notes ...api.Note) ([]int64, bool, api.Errno) {
	v, sound := values{c.Value: {}}, true
	for _, n := range notes {
		unsure := n.Errno == api.ErrStopped
		if n.Act.Kind != api.ActAsk || n.Act.Ask.Kind != api.AskChange || n.Act.Ask.Lock != lock || !unsure && !answered(n) {
			continue
		}
		after := v.changed(c.Floor, n.Act.Ask.By)
		if !unsure {
			_, possible := after[n.Answer.Value]
			sound = sound && possible
			v = values{n.Answer.Value: {}}
			continue
		}
		maps.Copy(after, v)
		v = after
		if len(v) > api.MaxValues {
			return nil, false, api.ErrLong
		}
	}
	return slices.Sorted(maps.Keys(v)), sound, api.OK
}

// Tickets tells the tickets that are told, in the order of notes; ErrAgain, where one is told twice.
func Tickets(notes ...api.Note) ([]api.Ticket, api.Errno) {
	var l []api.Ticket
	seen := map[api.Ticket]int{}
	for _, n := range notes {
		k := n.Act.Ask.Kind
		if n.Act.Kind != api.ActAsk || k != api.AskAcquire && k != api.AskTry || !answered(n) {
			continue
		}
		t := api.Ticket{Node: n.Act.Node, Lock: n.Act.Ask.Lock, Slot: n.Answer.Slot, Use: n.Answer.Use}
		seen[t]++
		if seen[t] > 1 {
			return nil, api.ErrAgain
		}
		l = append(l, t)
	}
	return l, api.OK
}

// pairs tells which two modes stand at two places, each pair once.
func pairs(l ...api.Mode) [][2]api.Mode {
	count := map[api.Mode]int{}
	var all [][2]api.Mode
	for _, m := range l {
		if count[m]++; count[m] == 2 {
			all = append(all, [2]api.Mode{m, m})
		}
	}
	kinds := slices.Sorted(maps.Keys(count))
	for i, a := range kinds {
		for _, b := range kinds[:i] {
			all = append(all, [2]api.Mode{a, b})
		}
	}
	return all
}

// Apart tells whether two modes that are held do not go together.
func Apart(l ...api.Mode) bool {
	return slices.ContainsFunc(pairs(l...), func(p [2]api.Mode) bool {
		ok, _ := mode.Together(p[:]...)
		return !ok
	})
}
