package deep_test

import (
	"reflect"
	"testing"

	"castellan/api"
	"castellan/deep"
)

// node has something in each list.
func node() api.Node {
	l := api.Lock{
		Token: api.Token{Over: []int64{1}, Wait: []api.Waiting{{Site: 1}}, Holds: []api.Hold{{Site: 2}}},
		Known: []api.Stat{{Over: 3}}, Slots: []api.Slot{{Use: 4}}, Tries: []api.Try{{Sent: 5}},
	}
	return api.Node{Link: api.Link{Out: []int64{6}, In: []api.Stamp{{Inc: 7}}}, Tally: api.Tally{Reports: [][]api.Report{{{Hop: 8}}}}, Locks: []api.Lock{l}}
}

// TestNode: a copy is the same, and shares no memory.
func TestNode(t *testing.T) {
	n := node()
	c := deep.Node(n)
	if !reflect.DeepEqual(n, c) {
		t.Errorf("%v, not %v", c, n)
	}
	l := &c.Locks[0]
	c.Link.Out[0], c.Link.In[0].Inc, c.Tally.Reports[0][0].Hop = 90, 90, 90
	l.Token.Over[0], l.Token.Wait[0].Site, l.Token.Holds[0].Site = 90, 90, 90
	l.Known[0].Over, l.Slots[0].Use, l.Tries[0].Sent, l.Last = 90, 90, 90, 90
	if !reflect.DeepEqual(n, node()) {
		t.Errorf("shared: %v", n)
	}
}

// TestConfig: likewise.
func TestConfig(t *testing.T) {
	c := api.Config{Forms: []api.Form{{Tree: true}}}
	deep.Config(c).Forms[0].Tree = false
	if !c.Forms[0].Tree {
		t.Error("shared")
	}
}
