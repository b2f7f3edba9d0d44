// Package octet is layer 1: numbers, texts and lists as bytes, in one way only.
package octet

import (
	"iter"

	"castellan/api"
)

// longest is how many bytes a number has at most.
const longest = 10

// raw is bytes that are looked at, and never written to.
type raw []byte

// size tells how many there are.
func (r raw) size() int { return len(r) }

// piece tells some of them, without the room behind them.
func (r raw) piece(from, to int) []byte { return r[from:to:to] }

// reader goes over bytes from the first one on.
type reader struct {
	raw
	at int
}

// left tells how many bytes have not been read.
func (r *reader) left() int { return r.size() - r.at }

// number reads a number.
func (r *reader) number() (uint64, api.Errno) {
	var n uint64
	why := api.ErrEnds
	for i, b := range r.piece(r.at, r.size()) {
		// A nought at the end is more than the number needs; the tenth byte has room for one bit.
		if i > 0 && b == 0 || i == longest-1 && b > 1 {
			why = api.ErrForm
			goto none
		}
		n |= uint64(b&0x7f) << (7 * i)
		if b < 0x80 {
			r.at += i + 1
			return n, api.OK
		}
	}
none:
	return 0, why
}

// text reads a text.
func (r *reader) text() (string, api.Errno) {
	n, e := r.number()
	if e == api.OK && n > uint64(r.left()) {
		e = api.ErrEnds
	}
	if e != api.OK {
		return "", e
	}
	from := r.at
	r.at += int(n)
	return string(r.piece(from, r.at)), api.OK
}

// many reads so many things of one kind.
func many[T any](n uint64, one func() (T, api.Errno)) ([]T, api.Errno) {
	var l []T
	for ; n > 0; n-- {
		x, e := one()
		if e != api.OK {
			return nil, e
		}
		l = append(l, x)
	}
	return l, api.OK
}

// writer gathers bytes.
type writer struct{ raw }

// put lays bytes behind those that are there.
func (w *writer) put(b ...byte) { w.raw = append(w.raw, b...) }

// number tells a number.
func (w *writer) number(n uint64) {
	for range width(n) - 1 {
		w.put(byte(n) | 0x80)
		n >>= 7
	}
	w.put(byte(n))
}

// text tells a text.
func (w *writer) text(s string) {
	w.number(uint64(len(s)))
	w.put([]byte(s)...)
}

// told is what was gathered.
func (w *writer) told() []byte { return w.piece(0, w.size()) }

// width tells how many bytes a number has: one more than there are bounds that it reaches.
func width(n uint64) int {
	bounds := [longest - 1]uint64{1 << 7, 1 << 14, 1 << 21, 1 << 28, 1 << 35, 1 << 42, 1 << 49, 1 << 56, 1 << 63}
	wide := 1
	for _, b := range bounds {
		if n >= b {
			wide++
		}
	}
	return wide
}

// Number tells a number's bytes.
func Number(n uint64) []byte {
	var w writer
	w.number(n)
	return w.told()
}

// ReadNumber reads one.
func ReadNumber(b []byte) (uint64, int, api.Errno) {
	r := reader{raw: b}
	n, e := r.number()
	return n, r.at, e
}

// Signed tells a signed number's bytes.
func Signed(n int64) []byte {
	// Shifting a sign down lays ones everywhere below 0: that turns twice the number over.
	return Number(uint64(n)<<1 ^ uint64(n>>63))
}

// ReadSigned reads one.
func ReadSigned(b []byte) (int64, int, api.Errno) {
	u, size, e := ReadNumber(b)
	return int64(u>>1) ^ -int64(u&1), size, e
}

// Text tells a text's bytes.
func Text(s string) []byte {
	var w writer
	w.text(s)
	return w.told()
}

// ReadText reads one.
func ReadText(b []byte) (string, int, api.Errno) {
	r := reader{raw: b}
	s, e := r.text()
	if e != api.OK {
		return "", 0, e
	}
	return s, r.at, api.OK
}

// List tells a list's bytes.
func List(l ...string) []byte {
	var w writer
	tell := w.text
	w.number(uint64(len(l)))
	for _, s := range l {
		tell(s)
	}
	return w.told()
}

// ReadList reads one of at most so many texts.
func ReadList(b []byte, most int) ([]string, int, api.Errno) {
	r := reader{raw: b}
	n, e := r.number()
	if e != api.OK {
		return nil, 0, e
	}
	if n > uint64(max(most, 0)) {
		return nil, 0, api.ErrLong
	}
	l, e := many(n, func() (string, api.Errno) { return r.text() })
	if e != api.OK {
		return nil, 0, e
	}
	return l, r.at, api.OK
}

// steps goes over the numbers with which bytes begin, by a reader of its own each time.
func steps(b raw) iter.Seq2[int, uint64] {
	return func(yield func(int, uint64) bool) {
		for r := (reader{raw: b}); ; {
			at := r.at
			n, e := r.number()
			if e != api.OK || !yield(at, n) {
				return
			}
		}
	}
}

// Numbers goes over numbers.
func Numbers(b []byte) iter.Seq2[int, uint64] {
	var w writer
	w.put(b...)
	return func(yield func(int, uint64) bool) {
	over:
		for at, n := range steps(w.raw) {
			if !yield(at, n) {
				break over
			}
		}
	}
}
