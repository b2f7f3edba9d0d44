package console

import (
	"strconv"
	"strings"

	"castellan/api"
	"castellan/audit"
	"castellan/message"
	"castellan/mode"
	"castellan/round"
	"castellan/script"
	"castellan/site"
	"castellan/world"
)

// lines tells what each line is like, by its first word.
func lines() map[string]form {
	return map[string]form{
		"new":     {"NNKN", true, (*Console).begin},
		"acquire": {"NNMNN", false, (*Console).acquire},
		"try":     {"NNMN", false, (*Console).try},
		"cancel":  {"T", false, stating(api.AskCancel)},
		"release": {"T", false, stating(api.AskRelease)},
		"poll":    {"T", false, stating(api.AskPoll)},
		"read":    {"T", false, valuing(api.AskRead)},
		"change":  {"TD", false, valuing(api.AskChange)},
		"tick":    {"N", false, acting(func(n []int) api.Act { return api.Act{Kind: api.ActTick, Node: n[0]} })},
		"revive":  {"N", false, acting(func(n []int) api.Act { return api.Act{Kind: api.ActRevive, Node: n[0]} })},
		"deliver": {"N", false, acting(func(n []int) api.Act { return api.Act{Kind: api.ActDeliver, At: n[0]} })},
		"drop":    {"N", false, acting(func(n []int) api.Act { return api.Act{Kind: api.ActDrop, At: n[0]} })},
		"double":  {"N", false, acting(func(n []int) api.Act { return api.Act{Kind: api.ActDouble, At: n[0]} })},
		"stop":    {"NN", false, acting(func(n []int) api.Act { return api.Act{Kind: api.ActStop, Node: n[0], N: n[1]} })},
		"crash":   {"NNN", false, acting(func(n []int) api.Act { return api.Act{Kind: api.ActCrash, Node: n[0], Keep: [2]int{n[1], n[2]}} })},
		"raw":     {"H", false, (*Console).live},
		"round":   {"N", false, (*Console).rounds},
		"way":     {"", false, (*Console).way},
		"held":    {"N", false, (*Console).held},
		"token":   {"N", false, (*Console).token},
		"up":      {"", false, (*Console).up},
		"counter": {"N", false, (*Console).counter},
		"ledger":  {"N", false, (*Console).ledger},
		"epoch":   {"", false, (*Console).epoch},
		"notes":   {"", false, (*Console).notes},
		"sound":   {"", false, (*Console).sound},
	}
}

// phrase joins words, a blank between.
func phrase(words ...string) string { return strings.Join(words, " ") }

// joined tells things, with something between; none, if there is none.
func joined[T any](l []T, between string, tell func(T) string) string {
	if len(l) == 0 {
		return "none"
	}
	var words []string
	for _, x := range l {
		words = append(words, tell(x))
	}
	return strings.Join(words, between)
}

// state tells a state's name.
func state(s api.State) string {
	names := [...]string{"none", "pending", "held", "released", "cancelled", "late"}
	return names[s]
}

// decimal tells a number.
func decimal(n int64) string { return strconv.FormatInt(n, 10) }

// name tells a ticket's name.
func (c *Console) name(t api.Ticket) string {
	s, _ := site.Text(c.shape(), t)
	return s
}

// begin lets a new world be there, in the place of what there was.
func (c *Console) begin(a args) (string, api.Errno) {
	g := api.Config{Shape: api.Shape{Nodes: a.n[0], Locks: len(a.forms), Slots: a.n[1]}, Limit: 3, Retry: 2, Far: 6, Suspect: 9, Apart: 3}
	for _, tree := range a.forms {
		g.Forms = append(g.Forms, api.Form{Tree: tree, Counter: api.Counter{Value: int64(a.n[2])}})
	}
	w, e := world.New(g, 100000, 20)
	if e == api.OK {
		c.world = w
	}
	return "ok", e
}

// open asks a node to open a ticket, and tells that, and its state.
func (c *Console) open(node int, x api.Ask) (string, api.Errno) {
	answer, e := c.act(api.Act{Kind: api.ActAsk, Node: node, Ask: x})
	if e != api.OK {
		return "", e
	}
	return phrase(c.name(api.Ticket{Node: node, Lock: x.Lock, Slot: answer.Slot, Use: answer.Use}), state(answer.State)), api.OK
}

// acquire is the line of that name.
func (c *Console) acquire(a args) (string, api.Errno) {
	return c.open(a.n[0], api.Ask{Kind: api.AskAcquire, Lock: a.n[1], Mode: a.mode, Prio: a.n[2], Ticks: int64(a.n[3])})
}

// try is the line of that name.
func (c *Console) try(a args) (string, api.Errno) {
	return c.open(a.n[0], api.Ask{Kind: api.AskTry, Lock: a.n[1], Mode: a.mode, Prio: a.n[2]})
}

// ask asks a ticket's node.
func (c *Console) ask(k api.AskKind, a args) (api.Answer, api.Errno) {
	t := a.ticket
	return c.act(api.Act{Kind: api.ActAsk, Node: t.Node, Ask: api.Ask{Kind: k, Lock: t.Lock, Slot: t.Slot, Use: t.Use, By: a.by}})
}

// stating is a line that asks a ticket's node, and tells the state.
func stating(k api.AskKind) func(*Console, args) (string, api.Errno) {
	return func(c *Console, a args) (string, api.Errno) {
		answer, e := c.ask(k, a)
		return state(answer.State), e
	}
}

// valuing is a line that asks a ticket's node, and tells the value.
func valuing(k api.AskKind) func(*Console, args) (string, api.Errno) {
	return func(c *Console, a args) (string, api.Errno) {
		answer, e := c.ask(k, a)
		return decimal(answer.Value), e
	}
}

// acting is a line that is an act.
func acting(of func(n []int) api.Act) func(*Console, args) (string, api.Errno) {
	return func(c *Console, a args) (string, api.Errno) {
		_, e := c.act(of(a.n))
		return "ok", e
	}
}

// live lets the acts that bytes are happen.
func (c *Console) live(a args) (string, api.Errno) {
	refused := 0
	for _, x := range script.Acts(c.world.Config(), a.raw) {
		if _, e := c.world.Do(x); e != api.OK {
			refused++
		}
	}
	return strconv.Itoa(refused), api.OK
}

// rounds lets good rounds come.
func (c *Console) rounds(a args) (string, api.Errno) {
	k, e := round.New(c.world, 1)
	if e != api.OK {
		return "", e
	}
	many, e := k.Run(min(a.n[0], maxRounds))
	return strconv.Itoa(many), e
}

// maxRounds is how many rounds a line runs, at most.
const maxRounds = 1000

// kind tells the name of a packet's message.
func (c *Console) kind(p api.Packet) string {
	m, _ := message.Read(c.shape(), p.Bytes)
	for k, name := range message.Kinds() {
		if k == m.Kind {
			return name
		}
	}
	return "none"
}

// way tells the packets.
func (c *Console) way(args) (string, api.Errno) {
	return joined(c.world.Way(), ", ", func(p api.Packet) string {
		return phrase(strconv.Itoa(p.From)+">"+strconv.Itoa(p.To), c.kind(p))
	}), api.OK
}

// held tells what is held of a lock.
func (c *Console) held(a args) (string, api.Errno) {
	return joined(c.world.Held(a.n[0]), ", ", func(h api.Held) string {
		m, _ := mode.Text(h.Mode)
		return phrase(c.name(h.Ticket), m)
	}), c.locks(a.n[0])
}

// token tells who has a lock's token.
func (c *Console) token(a args) (string, api.Errno) {
	return joined(c.world.Has(a.n[0]), " ", strconv.Itoa), c.locks(a.n[0])
}

// up tells which nodes are.
func (c *Console) up(args) (string, api.Errno) {
	var l []int
	for n := range c.shape().Nodes {
		if c.world.Up(n) {
			l = append(l, n)
		}
	}
	return joined(l, " ", strconv.Itoa), api.OK
}

// counter tells a lock's counter.
func (c *Console) counter(a args) (string, api.Errno) {
	x, ok := audit.Counter(c.world, a.n[0])
	if !ok {
		return "none", c.locks(a.n[0])
	}
	return phrase(decimal(x.Value), decimal(x.Floor), strconv.FormatUint(x.Version, 10)), api.OK
}

// ledger tells the possible values of a lock's counter.
func (c *Console) ledger(a args) (string, api.Errno) {
	l, e := audit.Ledger(c.world, a.n[0])
	return joined(l, " ", decimal), e
}

// epoch tells the latest epoch.
func (c *Console) epoch(args) (string, api.Errno) {
	e := audit.Epoch(c.world)
	return phrase(decimal(e.Count), strconv.Itoa(e.Node)), api.OK
}

// notes tells how many there are.
func (c *Console) notes(args) (string, api.Errno) { return strconv.Itoa(c.world.Len()), api.OK }

// sound tells whether the world is.
func (c *Console) sound(args) (string, api.Errno) { return "yes", audit.Sound(c.world) }
