package message_test

import (
	"bytes"
	"math"
	"math/rand"
	"slices"
	"testing"

	"castellan/api"
	"castellan/message"
	"castellan/seal"
)

var (
	two  = api.Shape{Nodes: 2, Locks: 1, Slots: 1}
	wide = api.Shape{Nodes: 3, Locks: 2, Slots: 2}
)

// tok is a token of the shape wide.
func tok() api.Token {
	return api.Token{Hop: 7, Over: []int64{0, 4, 2, 1, 0, 0}, Wait: []api.Waiting{{Site: 0, Use: 1, Mode: api.ModeX, Prio: 2, Age: 3}}, Holds: []api.Hold{{Site: 1, Use: 5, Mode: api.ModeS}}, Counter: api.Counter{Value: 5, Floor: -2, Version: 9}}
}

// with lays a stamp and an epoch in.
func with(m api.Message) api.Message {
	m.Stamp, m.Epoch = api.Stamp{Inc: 2, Seq: 300}, api.Epoch{Count: 4, Node: 1}
	return m
}

// row is a message of the shape wide, and the bytes in its frame behind 02 ac 02 04 01.
type row struct {
	m     api.Message
	kind  byte
	bytes string
}

func rows() []row {
	s := api.Stat{Over: 3, Pending: true, Mode: api.ModeX, Prio: 2}
	return []row{
		{with(api.Message{Kind: api.MsgStat, Lock: 1, Site: 5, Stat: s, Hop: 6}), 1, "\x01\x05\x03\x01\x05\x02\x06"},
		{with(api.Message{Kind: api.MsgAck, Site: 2, Stat: api.Stat{Over: 3}, Hop: 0}), 2, "\x00\x02\x03\x00\x00\x00\x00"},
		{with(api.Message{Kind: api.MsgGrant, Lock: 1, Site: 4, Use: 9, Mode: api.ModeSIX, Hop: 8, Counter: api.Counter{Value: -1, Floor: -2, Version: 3}}), 3, "\x01\x04\x09\x04\x08\x01\x03\x03"},
		{with(api.Message{Kind: api.MsgToken, Lock: 1, Token: tok()}), 4, "\x01\x07\x00\x04\x02\x01\x00\x00\x01\x00\x01\x05\x02\x03\x01\x01\x05\x03\x0a\x03\x09"},
		{with(api.Message{Kind: api.MsgAsk}), 5, ""},
		{with(api.Message{Kind: api.MsgReport, Reports: []api.Report{{Has: true, Hop: 3}, {Hop: 4}}}), 6, "\x01\x03\x00\x04"},
		{with(api.Message{Kind: api.MsgStart}), 7, "\x00"},
		{with(api.Message{Kind: api.MsgStart, Backs: []api.Back{{Lock: 0, Node: 2, Hop: 5}, {Lock: 1, Node: 0, Hop: 0}}}), 7, "\x02\x00\x02\x05\x01\x00\x00"},
	}
}

// TestBytes: P20.1, P20.3, the bytes in the frame, there and back.
func TestBytes(t *testing.T) {
	for _, r := range rows() {
		want, _ := seal.Seal([]byte(string(r.kind) + "\x02\xac\x02\x04\x01" + r.bytes))
		b, e := message.Bytes(wide, r.m)
		if !bytes.Equal(b, want) || e != api.OK || message.Check(wide, r.m) != api.OK {
			t.Errorf("Bytes of kind %d: %x %v, not %x", r.kind, b, e, want)
		}
		m, e := message.Read(wide, b)
		if !message.Same(m, r.m) || e != api.OK {
			t.Errorf("Read of kind %d: %v %v", r.kind, m, e)
		}
		if m, e := message.Read(wide, append(slices.Clone(b), 0)); e != api.ErrMessage || !message.Same(m, api.Message{}) {
			t.Errorf("bytes behind the frame: %v", e)
		}
		for cut := range b {
			if _, e := message.Read(wide, b[:cut]); e != api.ErrEnds {
				t.Errorf("cut at %d: %v", cut, e)
			}
		}
		for i := 8; i < 8*len(b); i++ {
			c := slices.Clone(b)
			c[i/8] ^= 1 << (i % 8)
			if m, e := message.Read(wide, c); e != api.ErrSum || !message.Same(m, api.Message{}) {
				t.Errorf("kind %d, bit %d: %v", r.kind, i, e)
			}
		}
		for _, s := range []api.Shape{{}, {Nodes: 65, Locks: 1, Slots: 1}} {
			b1, e1 := message.Bytes(s, r.m)
			_, e2 := message.Read(s, nil)
			if message.Check(s, r.m) != api.ErrArg || e1 != api.ErrArg || e2 != api.ErrArg || b1 != nil {
				t.Errorf("no shape: %v %v", e1, e2)
			}
		}
	}
	b, _ := message.Bytes(two, api.Message{Kind: api.MsgAsk, Stamp: api.Stamp{Inc: 1, Seq: 1}, Epoch: api.Epoch{Count: 2, Node: 1}})
	if inner, _, _ := seal.Open(b); string(inner) != "\x05\x01\x01\x02\x01" {
		t.Errorf("the example: %x", inner)
	}
}

// changes are ways to make a message wrong, by the kinds of which they do.
func changes() []struct {
	kinds  string
	change func(*api.Message)
} {
	type row = struct {
		kinds  string
		change func(*api.Message)
	}
	const all = "1234567"
	return []row{
		{all, func(m *api.Message) { m.Kind = 0 }}, {all, func(m *api.Message) { m.Kind = 8 }}, {all, func(m *api.Message) { m.Kind = -1 }},
		{all, func(m *api.Message) { m.Stamp.Inc = 0 }}, {all, func(m *api.Message) { m.Stamp.Seq = api.MaxStamp + 1 }}, {all, func(m *api.Message) { m.Stamp.Seq = -1 }}, {all, func(m *api.Message) { m.Stamp = api.Stamp{} }},
		{all, func(m *api.Message) { m.Epoch.Count = -1 }}, {all, func(m *api.Message) { m.Epoch.Count = api.MaxCount + 1 }}, {all, func(m *api.Message) { m.Epoch.Node = 3 }}, {all, func(m *api.Message) { m.Epoch.Node = -1 }},
		{all, func(m *api.Message) { m.Lock = 2 }}, {all, func(m *api.Message) { m.Lock = -1 }}, {"567", func(m *api.Message) { m.Lock = 1 }},
		{all, func(m *api.Message) { m.Site = 6 }}, {all, func(m *api.Message) { m.Site = -1 }}, {"4567", func(m *api.Message) { m.Site = 1 }},
		{all, func(m *api.Message) { m.Stat.Over = -1 }}, {"34567", func(m *api.Message) { m.Stat.Over = 1 }}, {all, func(m *api.Message) { m.Stat = api.Stat{Pending: true} }}, {all, func(m *api.Message) { m.Stat = api.Stat{Mode: 1} }},
		{all, func(m *api.Message) { m.Hop = -1 }}, {all, func(m *api.Message) { m.Hop = api.MaxHop + 1 }}, {"4567", func(m *api.Message) { m.Hop = 1 }},
		{all, func(m *api.Message) { m.Use = -1 }}, {all, func(m *api.Message) { m.Use = api.MaxUse + 1 }}, {"124567", func(m *api.Message) { m.Use = 1 }}, {"3", func(m *api.Message) { m.Use = 0 }},
		{all, func(m *api.Message) { m.Mode = api.ModeX }}, {all, func(m *api.Message) { m.Mode = -1 }}, {"124567", func(m *api.Message) { m.Mode = api.ModeS }}, {"3", func(m *api.Message) { m.Mode = 0 }},
		{all, func(m *api.Message) { m.Counter.Floor = 99 }}, {all, func(m *api.Message) { m.Counter.Version = api.MaxVersion + 1 }}, {"124567", func(m *api.Message) { m.Counter.Value = 1 }},
		{all, func(m *api.Message) { m.Token.Hop = -1 }}, {"123567", func(m *api.Message) { m.Token.Hop = 1 }}, {all, func(m *api.Message) { m.Token.Over = make([]int64, 5) }}, {"4", func(m *api.Message) { m.Token = api.Token{} }},
		{all, func(m *api.Message) { m.Reports = make([]api.Report, 1) }}, {"123457", func(m *api.Message) { m.Reports = make([]api.Report, 2) }}, {"6", func(m *api.Message) { m.Reports = nil }}, {"6", func(m *api.Message) { m.Reports[0].Hop = -1 }},
		{all, func(m *api.Message) { m.Backs = []api.Back{{Lock: 1}, {Lock: 0}} }}, {all, func(m *api.Message) { m.Backs = []api.Back{{Lock: 1}, {Lock: 1}} }}, {all, func(m *api.Message) { m.Backs = []api.Back{{Lock: 2}} }}, {all, func(m *api.Message) { m.Backs = []api.Back{{Lock: -1}} }},
		{all, func(m *api.Message) { m.Backs = []api.Back{{Node: 3}} }}, {all, func(m *api.Message) { m.Backs = []api.Back{{Node: -1}} }}, {all, func(m *api.Message) { m.Backs = []api.Back{{Hop: -1}} }}, {all, func(m *api.Message) { m.Backs = []api.Back{{Hop: api.MaxHop + 1}} }}, {"123456", func(m *api.Message) { m.Backs = []api.Back{{}} }},
	}
}

// TestCheck: P20.1, what may not be; what a kind does not name is zero.
func TestCheck(t *testing.T) {
	for i, c := range changes() {
		for _, r := range rows() {
			if !bytes.ContainsRune([]byte(c.kinds), rune('0'+r.kind)) {
				continue
			}
			m := r.m
			c.change(&m)
			if b, e := message.Bytes(wide, m); e != api.ErrArg || b != nil || message.Check(wide, m) != api.ErrArg {
				t.Errorf("change %d of kind %d: %v", i, r.kind, e)
			}
		}
	}
	m := with(api.Message{Kind: api.MsgAsk, Token: api.Token{Over: []int64{}}, Reports: []api.Report{}, Backs: []api.Back{}})
	if e := message.Check(wide, m); e != api.OK {
		t.Errorf("empty lists: %v", e)
	}
	edge := api.Message{Kind: api.MsgStat, Lock: 1, Stamp: api.Stamp{Inc: api.MaxStamp, Seq: api.MaxStamp}, Epoch: api.Epoch{Count: api.MaxCount, Node: 2}, Hop: api.MaxHop, Stat: api.Stat{Over: api.MaxUse}}
	least := with(api.Message{Kind: api.MsgGrant, Use: 1, Mode: api.ModeIS})
	most := with(api.Message{Kind: api.MsgGrant, Lock: 1, Site: 5, Use: api.MaxUse, Mode: api.ModeSIX, Hop: api.MaxHop})
	for i, m := range []api.Message{edge, least, most} {
		if e := message.Check(wide, m); e != api.OK {
			t.Errorf("%d, at the bounds: %v", i, e)
		}
	}
}

// TestRead: P20.1, the errors; what is in a frame, and is no message's.
func TestRead(t *testing.T) {
	frame := func(s string) []byte {
		b, _ := seal.Seal([]byte(s))
		return b
	}
	for _, c := range []struct {
		b    []byte
		want api.Errno
	}{
		{nil, api.ErrEnds}, {[]byte{0x80, 0}, api.ErrForm}, {[]byte{0x81, 0x80, 0x04}, api.ErrLong}, {[]byte{0, 0, 0, 0, 0}, api.ErrSum}, {[]byte{0, 0, 0, 0, 0, 0}, api.ErrSum},
		{frame(""), api.ErrMessage}, {frame("\x05\x01\x01\x02"), api.ErrMessage}, {frame("\x05\x01\x01\x02\x01\x00"), api.ErrMessage}, {frame("\x00\x01\x01\x02\x01"), api.ErrMessage}, {frame("\x08\x01\x01\x02\x01"), api.ErrMessage},
		{frame("\x05\x00\x01\x02\x01"), api.ErrMessage}, {frame("\x05\x01\x00\x02\x01"), api.ErrMessage}, {frame("\x05\x01\x01\x02\x02"), api.ErrMessage}, {frame("\x85\x00\x01\x01\x02\x01"), api.ErrMessage},
		{frame("\x01\x01\x01\x02\x01\x00\x00\x03\x02\x05\x02\x06"), api.ErrMessage}, {frame("\x06\x01\x01\x02\x01\x02\x03"), api.ErrMessage}, {frame("\x07\x01\x01\x02\x01\x02\x00\x00\x00\x01\x00\x00"), api.ErrMessage},
		{frame("\x07\x01\x01\x02\x01\xff\xff\xff\xff\xff\xff\xff\xff\xff\x01"), api.ErrMessage}, {frame("\x05\x01\x01\xff\xff\xff\xff\xff\xff\xff\xff\xff\x01\x01"), api.ErrMessage}, {frame("\x04\x01\x01\x02\x01\x00\x00\x00\x00\x81\x02"), api.ErrMessage},
		{frame("\x05\x01\x01\x02\x01"), api.OK}, {frame("\x07\x01\x01\x02\x01\x01\x00\x01\x00"), api.OK},
	} {
		if m, e := message.Read(two, c.b); e != c.want || e != api.OK && !message.Same(m, api.Message{}) {
			t.Errorf("Read(%x) = %v %v", c.b, m, e)
		}
	}
}

// TestSame: P20.2.
func TestSame(t *testing.T) {
	if !message.Same(api.Message{Reports: []api.Report{}}, api.Message{Backs: []api.Back{}}) {
		t.Error("nil and empty lists are others")
	}
	for _, r := range rows() {
		for i, change := range []func(*api.Message){
			func(m *api.Message) { m.Kind++ }, func(m *api.Message) { m.Stamp.Seq++ }, func(m *api.Message) { m.Epoch.Node++ }, func(m *api.Message) { m.Lock++ }, func(m *api.Message) { m.Site++ }, func(m *api.Message) { m.Stat.Prio++ }, func(m *api.Message) { m.Hop++ },
			func(m *api.Message) { m.Use++ }, func(m *api.Message) { m.Mode++ }, func(m *api.Message) { m.Counter.Version++ }, func(m *api.Message) { m.Token.Wait = []api.Waiting{{}} }, func(m *api.Message) { m.Reports = make([]api.Report, 9) }, func(m *api.Message) { m.Backs = make([]api.Back, 9) },
		} {
			x := r.m
			change(&x)
			if message.Same(x, r.m) || message.Same(r.m, x) || !message.Same(r.m, r.m) {
				t.Errorf("change %d of kind %d", i, r.kind)
			}
		}
	}
}

// TestKinds: P20.2.
func TestKinds(t *testing.T) {
	names := []string{"stat", "ack", "grant", "token", "ask", "report", "start"}
	seq := message.Kinds()
	for range 2 {
		next := 0
		for k, s := range seq {
			if k != api.MsgKind(next+1) || s != names[next] {
				t.Errorf("%d: %d %q", next, k, s)
			}
			next++
		}
		if next != 7 {
			t.Errorf("%d kinds", next)
		}
	}
	for k := range seq {
		if k != 1 {
			t.Errorf("first: %d", k)
		}
		break
	}
}

// TestApart: what is read shares no memory with the bytes, what is told none with the message.
func TestApart(t *testing.T) {
	m := rows()[3].m
	b, _ := message.Bytes(wide, m)
	x, _ := message.Read(wide, b)
	clear(b)
	x.Token.Over[1], x.Token.Wait[0].Age = 99, 9
	y, _ := message.Bytes(wide, m)
	if z, e := message.Read(wide, y); e != api.OK || !message.Same(z, m) {
		t.Errorf("shared: %v %v", z, e)
	}
}

// TestAnyBytes: P20.3, what is read from bytes is told as those bytes.
func TestAnyBytes(t *testing.T) {
	r := rand.New(rand.NewSource(18))
	read := 0
	for range 40000 {
		inner := []byte{byte(1 + r.Intn(7)), 1, 1, byte(r.Intn(3)), byte(r.Intn(3))}
		for range r.Intn(14) {
			inner = append(inner, []byte{0, 1, byte(r.Intn(5)), byte(r.Intn(256))}[r.Intn(4)])
		}
		b, _ := seal.Seal(inner)
		m, e := message.Read(two, b)
		if e != api.OK {
			continue
		}
		read++
		if c, e := message.Bytes(two, m); !bytes.Equal(b, c) || e != api.OK {
			t.Fatalf("%x is told as %x", b, c)
		}
	}
	if read < 100 {
		t.Errorf("only %d were read", read)
	}
	if m, e := message.Read(two, make([]byte, math.MaxUint16)); e == api.OK {
		t.Errorf("noughts: %v", m)
	}
}
