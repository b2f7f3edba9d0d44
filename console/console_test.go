package console_test

import (
	"math/rand"
	"slices"
	"strconv"
	"strings"
	"testing"

	"castellan/api"
	"castellan/audit"
	"castellan/console"
	"castellan/round"
	"castellan/world"
)

// says holds a console's answers to lines against what is wanted: lines and answers, one behind the other.
func says(t *testing.T, c *console.Console, l ...string) {
	t.Helper()
	for i := 0; i < len(l); i += 2 {
		got, e := c.Line(l[i])
		if e == api.ErrLine && got == "" {
			got = "error 410"
		} else if e != api.OK {
			t.Errorf("%q: %q beside %v", l[i], got, e)
		}
		if got != l[i+1] {
			t.Errorf("%q: %q, not %q", l[i], got, l[i+1])
		}
	}
}

// TestExample: P31.1.
func TestExample(t *testing.T) {
	says(t, console.New(), "new 2 1 b 5", "ok", "acquire 1 0 x 0 0", "1.0.0.1 pending", "way", "1>0 stat", "deliver 0", "ok", "deliver 0", "ok", "held 0", "1.0.0.1 x", "read 1.0.0.1", "5",
		"change 1.0.0.1 -2", "3", "release 1.0.0.1", "released", "token 0", "1", "poll 1.0.0.2", "error 5", "foo", "error 410", "sound", "yes")
}

// TestLines: P31.1, each line, and what it answers.
func TestLines(t *testing.T) {
	says(t, console.New(), "new 3 2 bt 7", "ok", "try 2 1 s 0", "error 310", "up", "0 1 2", "way", "none", "held 0", "none", "token 0", "0", "token 1", "1", "counter 1", "7 0 0", "ledger 1", "7", "epoch", "0 0", "notes", "1", "sound", "yes",
		"acquire 0 0 s 3 9", "0.0.0.1 held", "try 0 0 x 0", "error 310", "try 0 0 is 1", "0.0.1.2 held", "acquire 0 0 x 0 1", "error 300", "acquire 2 0 x 1 1", "2.0.0.1 pending", "held 0", "0.0.0.1 s, 0.0.1.2 is", "way", "2>0 stat, 2>1 stat",
		"double 1", "ok", "way", "2>0 stat, 2>1 stat, 2>1 stat", "drop 1", "ok", "deliver 0", "ok", "way", "2>1 stat, 0>2 ack", "poll 2.0.0.1", "pending", "tick 2", "ok", "poll 2.0.0.1", "late", "cancel 2.0.0.1", "error 303", "release 2.0.0.1", "error 303",
		"read 0.0.0.1", "7", "read 0.0.1.2", "error 240", "change 0.0.0.1 1", "error 240", "release 0.0.0.1", "released", "cancel 0.0.1.2", "error 302", "poll 0.0.0.1", "released",
		"acquire 1 1 x 0 0", "1.1.0.1 held", "change 1.1.0.1 5", "12", "change 1.1.0.1 -12", "0", "change 1.1.0.1 -1", "error 140", "counter 1", "0 0 2", "ledger 1", "0", "acquire 1 1 x 0 0", "1.1.1.1 pending", "cancel 1.1.1.1", "cancelled",
		"stop 1 0", "ok", "change 1.1.0.1 3", "error 171", "ledger 1", "0 3", "up", "0 2", "counter 1", "none", "token 1", "none", "tick 1", "error 340", "revive 0", "error 341", "revive 1", "ok", "up", "0 1 2", "crash 0 5 5", "ok", "crash 2 0 0", "ok", "crash 1 0 0", "ok", "up", "none", "sound", "yes",
		"held 2", "error 4", "token 2", "error 4", "counter 9", "error 4", "ledger 2147483647", "error 4", "tick 3", "error 2", "deliver 99", "error 4", "stop 3 1", "error 2", "acquire 0 2 x 0 0", "error 2", "acquire 0 0 x 4 0", "error 2", "round 3", "1", "up", "0 1 2")
}

// TestRaw: P31.1, acts that are bytes; how many were refused.
func TestRaw(t *testing.T) {
	says(t, console.New(), "new 2 1 b 5", "ok", "raw -", "0", "raw 00000000040000", "0", "held 0", "0.0.0.1 x", "raw 0100020902000101", "2", "notes", "3", "raw 0101010", "error 410", "raw 0G", "error 410", "raw AB", "error 410", "raw 01--", "error 410", "raw", "error 410", "raw  ", "error 410", "raw 01", "0", "notes", "3")
}

// TestRound: P31.1, good rounds, as long as somebody waits.
func TestRound(t *testing.T) {
	c := console.New()
	says(t, c, "new 2 1 b 5", "ok", "acquire 0 0 x 0 0", "0.0.0.1 held", "acquire 1 0 x 0 0", "1.0.0.1 pending", "round 0", "0", "notes", "2", "round 9", "1", "held 0", "1.0.0.1 x", "round 5", "1", "held 0", "none", "round 2147483647", "1")
	w, _ := world.New(api.Config{Shape: api.Shape{Nodes: 2, Locks: 1, Slots: 1}, Forms: []api.Form{{Counter: api.Counter{Value: 5}}}, Limit: 3, Retry: 2, Far: 6, Suspect: 9, Apart: 3}, 100000, 20)
	for n := range 2 {
		w.Do(api.Act{Kind: api.ActAsk, Node: n, Ask: api.Ask{Kind: api.AskAcquire, Mode: api.ModeX}})
	}
	for range 3 {
		k, _ := round.New(w, 1)
		k.Run(5)
	}
	got, _ := c.Line("notes")
	if got != strconv.Itoa(w.Len()) {
		t.Errorf("%s notes, not %d", got, w.Len())
	}
}

// TestEpochs: P31.1, the kinds of messages, and the epoch.
func TestEpochs(t *testing.T) {
	c := console.New()
	says(t, c, "new 2 1 t 5", "ok", "acquire 1 0 x 0 0", "1.0.0.1 pending", "drop 0", "ok")
	for range 11 {
		c.Line("tick 1")
		c.Line("drop 0")
	}
	says(t, c, "epoch", "0 0", "way", "none", "tick 1", "ok", "epoch", "1 1", "way", "1>0 stat, 1>0 ask", "drop 0", "ok", "deliver 0", "ok", "way", "0>1 report", "deliver 0", "ok", "way", "1>0 start", "deliver 0", "ok", "tick 1", "ok", "way", "1>0 stat", "deliver 0", "ok", "way", "0>1 token, 0>1 ack")
	d := console.New()
	says(t, d, "new 2 1 b 5", "ok", "acquire 1 0 s 0 0", "1.0.0.1 pending", "deliver 0", "ok", "way", "0>1 grant, 0>1 ack")
}

// TestNew: P31.1, the world stays where it is refused.
func TestNew(t *testing.T) {
	c := console.New()
	says(t, c, "new 65 1 b 5", "error 2", "up", "error 5", "new 64 4 bbbbtttt 2147483647", "ok", "counter 7", "2147483647 0 0", "tick 0", "ok", "new 0 1 b 5", "error 2", "new 2 5 b 5", "error 2", "new 1 1 bbbbbbbbb 5", "error 2", "new 2 1 x 5", "error 410", "new 2 1 - 5", "error 410", "new 2 1  5", "error 410", "new 2 1 b", "error 410", "new 2 1 b 5 5", "error 410", "new 2147483648 1 b 5", "error 410", "new 2147483647 1 b 5", "error 2",
		"notes", "1", "new 1 1 t 0", "ok", "notes", "0", "up", "0")
}

// TestNoWorld: P31.1, where there is no world.
func TestNoWorld(t *testing.T) {
	c := console.New()
	for _, l := range []string{"acquire 0 0 x 0 0", "try 9 9 is 9", "cancel 0.0.0.1", "release 63.7.3.1099511627776", "poll 1.0.0.2", "read 1.0.0.2", "change 1.0.0.2 5", "tick 0", "revive 0", "deliver 0", "drop 0", "double 0", "stop 0 0", "crash 0 0 0", "raw -", "raw 0102", "round 1", "way", "held 0", "token 9", "up", "counter 0", "ledger 0", "epoch", "notes", "sound"} {
		says(t, c, l, "error 5")
	}
	for _, l := range []string{"poll 64.0.0.1", "poll 0.8.0.1", "poll 0.0.4.1", "poll 0.0.0.0", "change 1.0.0.2 0"} {
		says(t, c, l, "error 410")
	}
}

// TestNoLine: P31.1, lines that may not be change nothing.
func TestNoLine(t *testing.T) {
	c := console.New()
	says(t, c, "new 2 1 b 5", "ok")
	for _, l := range []string{
		"", " ", "foo", "Way", "way ", " way", "way 1", "ways", "up up", "tick", "tick  0", "tick 0 ", "tick -1", "tick +1", "tick 01", "tick 2147483648", "tick 99999999999999999999", "tick x", "tick 1.0", "tick 0\n", "tick\t0", "tick 0 0", "held", "held -0", "stop 0", "crash 0 0", "crash 0 0 0 0",
		"acquire 0 0 none 0 0", "acquire 0 0 X 0 0", "acquire 0 0 x 0", "acquire 0 0 x 0 0 0", "acquire 0 0 5 0 0", "try 0 0 x", "try 0 0 x 0 0", "poll", "poll 0.0.0", "poll 2.0.0.1", "poll 0.1.0.1", "poll 0.0.1.1", "poll 0.0.0.0", "poll 0.0.0.01", "poll 0.0.0.1 1", "read x", "change 0.0.0.1", "change 0.0.0.1 0", "change 0.0.0.1 -0", "change 0.0.0.1 +1", "change 0.0.0.1 --1", "change 0.0.0.1 -", "change 0.0.0.1 2147483648", "change 0.0.0.1 -2147483648", "change 0.0.0.1 01",
		"\xff", "tick \xff", "tick \u0661", "raw \u00ab", strings.Repeat("x", 100000),
	} {
		if got, e := c.Line(l); got != "" || e != api.ErrLine {
			t.Errorf("%q: %q %v", l, got, e)
		}
	}
	says(t, c, "notes", "0", "acquire 0 0 x 0 2147483647", "0.0.0.1 held", "change 0.0.0.1 2147483647", "2147483652", "change 0.0.0.1 -2147483647", "5")
	for _, c := range []*console.Console{nil, {}} {
		for _, l := range []string{"", "new 2 1 b 5", "foo"} {
			if got, e := c.Line(l); got != "" || e != api.ErrNil {
				t.Errorf("no console: %q %v", got, e)
			}
		}
	}
}

// TestOnlyAsks: P31.3, what only asks changes nothing.
func TestOnlyAsks(t *testing.T) {
	one := func(extra bool) string {
		c := console.New()
		var all []string
		for _, l := range []string{"new 2 1 b 5", "acquire 1 0 x 0 0", "deliver 0", "deliver 0", "change 1.0.0.1 4", "tick 0", "stop 1 0", "change 1.0.0.1 4", "revive 1", "release 1.0.0.1"} {
			if extra {
				for _, q := range []string{"way", "held 0", "token 0", "up", "counter 0", "ledger 0", "epoch", "notes", "sound", "foo", "poll 9.9.9.9"} {
					c.Line(q)
				}
			}
			x, _ := c.Line(l)
			all = append(all, x)
		}
		for _, q := range []string{"way", "held 0", "token 0", "up", "counter 0", "ledger 0", "epoch", "notes"} {
			x, _ := c.Line(q)
			all = append(all, x)
		}
		return strings.Join(all, ";")
	}
	if a, b := one(false), one(true); a != b {
		t.Errorf("%s\n%s", a, b)
	}
}

// TestRun: P31.2.
func TestRun(t *testing.T) {
	for text, want := range map[string]string{
		"": "", "\n\n": "", "up": "error 5\n", "up\n": "error 5\n", "\nup\n\nfoo\nnew 1 1 b 5\nup": "error 5\nerror 410\nok\n0\n", "new 1 1 b 5\r\nup": "error 410\nerror 5\n", " \n": "error 410\n",
	} {
		if got, e := console.Run(text); got != want || e != api.OK {
			t.Errorf("Run(%q) = %q %v", text, got, e)
		}
	}
	lines := strings.Repeat("up\n", 999)
	if got, e := console.Run(lines); e != api.OK || got != strings.Repeat("error 5\n", 999) {
		t.Errorf("1000 lines: %v", e)
	}
	if got, e := console.Run(lines + "up"); e != api.OK || got != strings.Repeat("error 5\n", 1000) {
		t.Errorf("1000 lines: %v", e)
	}
	if got, e := console.Run(strings.Repeat("\n", 1000)); got != "" || e != api.ErrLong {
		t.Errorf("1001 lines: %v", e)
	}
	long := strings.Repeat("x", api.MaxText)
	if got, e := console.Run(long); got != "error 410\n" || e != api.OK {
		t.Errorf("a long text: %v", e)
	}
	if got, e := console.Run(long + "x"); got != "" || e != api.ErrLong {
		t.Errorf("one byte more: %v", e)
	}
}

// TestEach: P31.2, also of a text that is too long.
func TestEach(t *testing.T) {
	collect := func(text string) (at []int, l []string) {
		for n, line := range console.Each(text) {
			at, l = append(at, n), append(l, line)
		}
		return at, l
	}
	for range 2 {
		at, l := collect("\na b\n\n\xffc\n \nd")
		if !slices.Equal(at, []int{1, 3, 4, 5}) || !slices.Equal(l, []string{"a b", "\xffc", " ", "d"}) {
			t.Errorf("Each: %v %q", at, l)
		}
	}
	if at, _ := collect(strings.Repeat("y\n", 600000)); len(at) != 600000 || at[599999] != 599999 {
		t.Errorf("a long text: %d lines", len(at))
	}
	if at, _ := collect(""); at != nil {
		t.Errorf("no text: %v", at)
	}
	for n, line := range console.Each("a\nb") {
		if n != 0 || line != "a" {
			t.Errorf("first: %d %q", n, line)
		}
		break
	}
}

// line tells one by chance.
func line(r *rand.Rand) string {
	n := func(most int) string { return strconv.Itoa(r.Intn(most)) }
	t := func() string { return n(2) + ".0.0." + strconv.Itoa(1+r.Intn(4)) }
	modes := []string{"is", "ix", "s", "six", "x", "none"}
	l := []string{
		"acquire " + n(3) + " 0 " + modes[r.Intn(6)] + " " + n(5) + " " + n(9), "try " + n(2) + " 0 x 0", "cancel " + t(), "release " + t(), "release " + t(), "poll " + t(), "read " + t(), "change " + t() + " " + n(5), "change " + t() + " -" + n(5),
		"tick " + n(2), "tick " + n(2), "deliver " + n(3), "deliver 0", "deliver 0", "drop " + n(3), "double " + n(2), "stop " + n(2) + " " + n(20), "crash " + n(2) + " 0 " + n(20), "revive " + n(2), "round " + n(4), "way", "held 0", "token 0", "up", "counter 0", "ledger 0", "epoch", "notes", "sound", "raw 0" + n(8) + "0" + n(2), "", "nonsense",
	}
	return l[r.Intn(len(l))]
}

// TestBegins: P31.3, the answers of a text and another one begin with those of the first one; what lines tell is what layers 27 to 30 tell.
func TestBegins(t *testing.T) {
	r := rand.New(rand.NewSource(29))
	for range 40 {
		l := []string{"new 2 1 b 5"}
		for range 60 {
			l = append(l, line(r))
		}
		all, e := console.Run(strings.Join(l, "\n"))
		cut := r.Intn(len(l))
		first, f := console.Run(strings.Join(l[:cut], "\n"))
		if e != api.OK || f != api.OK || !strings.HasPrefix(all, first) || strings.Contains(all, "error 37") {
			t.Fatalf("%v %v: %q, %q", e, f, first, all)
		}
	}
	w, _ := world.New(api.Config{Shape: api.Shape{Nodes: 2, Locks: 1, Slots: 1}, Forms: []api.Form{{Counter: api.Counter{Value: 5}}}, Limit: 3, Retry: 2, Far: 6, Suspect: 9, Apart: 3}, 100000, 20)
	c := console.New()
	c.Line("new 2 1 b 5")
	for range 300 {
		k, n := api.ActKind(2+r.Intn(7)), r.Intn(2)
		a := api.Act{Kind: k, Node: n, At: n, N: 9, Keep: [2]int{3, 3}}
		text := map[api.ActKind]string{api.ActTick: "tick", api.ActDeliver: "deliver", api.ActDrop: "drop", api.ActDouble: "double", api.ActStop: "stop", api.ActCrash: "crash", api.ActRevive: "revive"}[k] + " " + strconv.Itoa(n)
		if k == api.ActStop {
			text += " 9"
		} else if k == api.ActCrash {
			text += " 3 3"
		}
		if r.Intn(2) == 0 {
			a = api.Act{Kind: api.ActAsk, Node: n, Ask: api.Ask{Kind: api.AskAcquire, Mode: api.ModeS, Ticks: 5}}
			text = "acquire " + strconv.Itoa(n) + " 0 s 0 5"
		}
		_, e := w.Do(a)
		got, _ := c.Line(text)
		if e != api.OK && got != e.Error() {
			t.Fatalf("%q: %q, not %v", text, got, e)
		}
		notes, _ := c.Line("notes")
		epoch, _ := c.Line("epoch")
		x := audit.Epoch(w)
		if notes != strconv.Itoa(w.Len()) || epoch != strconv.Itoa(int(x.Count))+" "+strconv.Itoa(x.Node) {
			t.Fatalf("%q: %s notes, epoch %s", text, notes, epoch)
		}
	}
}
