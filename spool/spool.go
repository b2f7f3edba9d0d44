// Package spool is bytes behind which numbers are laid, and from which they are read.
package spool

import (
	"math"

	"castellan/api"
	"castellan/octet"
	"castellan/refuse"
)

// Spool is bytes, and how many of them were read. Where Why is set, whatever can't be read is refused so.
type Spool struct {
	Bytes []byte
	At    int
	Why   api.Errno
}

// Put lays numbers behind the others.
func (s *Spool) Put(l ...int64) {
	for _, n := range l {
		s.Bytes = append(s.Bytes, octet.Number(uint64(n))...)
	}
}

// PutSigned lays signed numbers behind the others.
func (s *Spool) PutSigned(l ...int64) {
	for _, n := range l {
		s.Bytes = append(s.Bytes, octet.Signed(n)...)
	}
}

// PutTruth lays a truth behind the others.
func (s *Spool) PutTruth(yes bool) {
	if yes {
		s.Put(1)
		return
	}
	s.Put(0)
}

// Read reads something in the way that is said, or gives up.
func Read[T any](s *Spool, how func([]byte) (T, int, api.Errno)) T {
	x, many, e := how(s.Bytes[s.At:])
	if e != api.OK && s.Why != api.OK {
		e = s.Why
	}
	refuse.Must(e)
	s.At += many
	return x
}

// Number reads a number; one that is greater than all that may be is as wrong as -1.
func (s *Spool) Number() int64 {
	n := Read(s, octet.ReadNumber)
	if n > math.MaxInt64 {
		return -1
	}
	return int64(n)
}

// Signed reads a signed number.
func (s *Spool) Signed() int64 { return Read(s, octet.ReadSigned) }

// Truth reads a truth; what is none is refused as is said.
func (s *Spool) Truth() bool {
	n := s.Number()
	refuse.Need(n == 0 || n == 1, s.Why)
	return n == 1
}
