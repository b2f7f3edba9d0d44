package image

import (
	"math"

	"castellan/api"
	"castellan/octet"
	"castellan/refuse"
)

// raw is bytes, one behind the other.
type raw []byte

// put lays bytes behind the others.
func (r *raw) put(b ...byte) { *r = append(*r, b...) }

// from tells those from a place on, without the room behind them.
func (r raw) from(at int) []byte { return r[at:len(r):len(r)] }

// tape is bytes of a config's node that are being told, or read: what is done with a thing is done both ways alike.
type tape struct {
	raw
	config  api.Config
	telling bool
	at      int
}

// over tells whether all has been read.
func (t *tape) over() bool { return t.at == len(t.raw) }

// next reads something in the way that is said; what can't be read is no image's.
func next[T any](t *tape, how func([]byte) (T, int, api.Errno)) T {
	x, many, e := how(t.from(t.at))
	refuse.Need(e == api.OK, api.ErrImage)
	t.at += many
	return x
}

// number tells or reads a number; one that is greater than all that may be is as wrong as -1.
func (t *tape) number(n *int64) {
	u := uint64(*n)
	t.version(&u)
	*n = -1
	if u <= math.MaxInt64 {
		*n = int64(u)
	}
}

// numbers tells or reads some.
func (t *tape) numbers(l ...*int64) {
	for _, n := range l {
		t.number(n)
	}
}

// version tells or reads a number of which all may be.
func (t *tape) version(u *uint64) {
	if t.telling {
		t.put(octet.Number(*u)...)
		return
	}
	*u = next(t, octet.ReadNumber)
}

// signed tells or reads a signed number.
func (t *tape) signed(n *int64) {
	if t.telling {
		t.put(octet.Signed(*n)...)
		return
	}
	*n = next(t, octet.ReadSigned)
}

// code tells or reads a number of some other type.
func code[N ~int](t *tape, n *N) {
	x := int64(*n)
	t.number(&x)
	*n = N(x)
}

// integers tells or reads numbers of things that are counted.
func (t *tape) integers(l ...*int) {
	for _, n := range l {
		code(t, n)
	}
}

// truth tells or reads a truth.
func (t *tape) truth(yes *bool) {
	truths := [2]bool{false, true}
	n := int64(0)
	if *yes {
		n = 1
	}
	t.number(&n)
	refuse.Need(0 <= n && n < int64(len(truths)), api.ErrImage)
	*yes = truths[n]
}

// items tells or reads a list of so many things.
func items[T any](t *tape, l *[]T, many int, one func(*tape, *T)) {
	if !t.telling {
		*l = make([]T, many)
	}
	for i := range *l {
		one(t, &(*l)[i])
	}
}
