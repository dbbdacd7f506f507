// Package pack is layer 1: numbers as bytes. See shared/doc/01-pack.md.
package pack

import (
	"bytes"
	"iter"
)

// A byte carries seven bits; the eighth, that of value more, says that another byte follows. Nine bytes hold all 63 bits of the greatest number.
const (
	bits = 7
	more = 1 << bits
	most = 9
)

// Put answers b with the numbers behind it; a number below 0 counts as 0.
func Put(b []byte, xs ...int) []byte {
	n := len(b)
	for _, x := range xs {
		n += Size(x)
	}
	// Always new memory, even where b has spare room: its owner may use that room.
	out := append(make([]byte, 0, n), b...)
	for _, x := range xs {
		out = putOne(out, max(x, 0))
	}
	return out
}

func putOne(out []byte, x int) []byte {
	for x >= more {
		out = append(out, byte(x%more+more))
		x >>= bits
	}
	return append(out, byte(x))
}

// Take answers the number that b begins with, and how many bytes it has; 0, 0: none.
func Take(b []byte) (int, int) {
	x := 0
	for i, c := range b[:min(len(b), most)] {
		x |= int(c%more) << (bits * i)
		if c >= more {
			continue
		}
		if c == 0 && i > 0 {
			return 0, 0 // the same number has a shorter form, and each number has one form alone
		}
		return x, i + 1
	}
	return 0, 0
}

// Size answers how many bytes a number has; one below 0 counts as 0.
func Size(x int) int {
	n := 1
	for x >= more {
		x >>= bits
		n++
	}
	return n
}

// Numbers goes over the numbers that stand one behind the other from the front of b on: the place of each, and it.
func Numbers(b []byte) iter.Seq2[int, int] {
	own := bytes.Clone(b) // the caller may write into b before it goes over them
	return func(yield func(int, int) bool) {
		at := 0 // begins anew each time the numbers are gone over
		for {
			x, n := Take(own[at:])
			if n == 0 || !yield(at, x) {
				return
			}
			at += n
		}
	}
}

// Reader reads bytes from the front, and remembers its first fault.
type Reader struct {
	rest []byte // nothing behind a fault, so that each later call meets one too
	bad  bool
}

// New answers a reader of these bytes.
func New(b []byte) *Reader { return &Reader{rest: bytes.Clone(b)} }

func (r *Reader) fail() { r.rest, r.bad = nil, true }

// Number takes the next number; 0 behind a fault.
func (r *Reader) Number() int {
	if r == nil {
		return 0
	}
	x, n := Take(r.rest)
	if n == 0 {
		r.fail()
		return 0
	}
	r.rest = r.rest[n:]
	return x
}

// Byte takes the next byte; 0 behind a fault.
func (r *Reader) Byte() byte {
	b := r.Bytes(1)
	if len(b) == 0 {
		return 0
	}
	return b[0]
}

// Bytes takes the next n bytes; none behind a fault.
func (r *Reader) Bytes(n int) []byte {
	if r == nil {
		return nil
	}
	if n < 0 || n > len(r.rest) {
		r.fail()
		return nil
	}
	out := bytes.Clone(r.rest[:n])
	r.rest = r.rest[n:]
	return out
}

// Left answers how many bytes are left; 0 behind a fault.
func (r *Reader) Left() int {
	if r == nil {
		return 0
	}
	return len(r.rest)
}

// Bad answers whether there was a fault.
func (r *Reader) Bad() bool { return r != nil && r.bad }

// End answers whether there was no fault, and nothing is left.
func (r *Reader) End() bool { return r != nil && !r.bad && len(r.rest) == 0 }
