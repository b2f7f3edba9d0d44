// Package deep copies what has lists inside, so that no two share memory.
package deep

import (
	"slices"

	"castellan/api"
)

// Token is another token with the same.
func Token(t api.Token) api.Token {
	t.Over, t.Wait, t.Holds = slices.Clone(t.Over), slices.Clone(t.Wait), slices.Clone(t.Holds)
	return t
}

// Lock is another lock with the same.
func Lock(l api.Lock) api.Lock {
	l.Token = Token(l.Token)
	l.Known, l.Slots, l.Tries = slices.Clone(l.Known), slices.Clone(l.Slots), slices.Clone(l.Tries)
	return l
}

// Node is another node with the same.
func Node(n api.Node) api.Node {
	n.Link.Out, n.Link.In = slices.Clone(n.Link.Out), slices.Clone(n.Link.In)
	n.Tally.Reports, n.Locks = slices.Clone(n.Tally.Reports), slices.Clone(n.Locks)
	for i, r := range n.Tally.Reports {
		n.Tally.Reports[i] = slices.Clone(r)
	}
	for i, l := range n.Locks {
		n.Locks[i] = Lock(l)
	}
	return n
}

// Config is another config with the same.
func Config(c api.Config) api.Config {
	c.Forms = slices.Clone(c.Forms)
	return c
}
