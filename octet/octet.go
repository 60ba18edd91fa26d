// Package octet is layer 1: numbers and texts as bytes: see shared/doc/01-octet.md.
package octet

import (
	"math"

	"tithing/api"
)

// longest is how many bytes a number has at most: 64 bits, seven a byte.
const longest = 10

// Num is bytes with a number's behind.
func Num(b []byte, n uint64) []byte { return join(b, digits(n)) }

// Text is bytes with a text's behind.
func Text(b, t []byte) []byte {
	t = t[:min(len(t), api.MaxText)]
	return join(b, digits(uint64(len(t))), t)
}

// Hash is bytes with a hash's behind.
func Hash(b []byte, h api.Hash) []byte {
	out := make([]byte, len(b)+len(h))
	copy(out, b)
	copy(out[len(b):], h[:])
	return out
}

// join is the parts, one behind the other. It is new memory even where the first part had room behind it: that room may be another's.
func join(parts ...[]byte) []byte {
	size := 0
	for _, p := range parts {
		size += len(p)
	}
	out := make([]byte, 0, size)
	for _, p := range parts {
		out = append(out, p...)
	}
	return out
}

// digits is a number's bytes.
func digits(n uint64) []byte {
	out := make([]byte, 0, longest)
	for n >= 128 {
		out = append(out, byte(n)|128)
		n >>= 7
	}
	return append(out, byte(n))
}

// Reader reads bytes.
type Reader struct {
	bytes []byte
	place int
	right bool // so that a reader that Read did not make is wrong
}

// Read is a reader of bytes.
func Read(b []byte) *Reader {
	return &Reader{bytes: join(b), right: true}
}

// Num reads a number.
func (r *Reader) Num() uint64 { return r.number(math.MaxUint64) }

// Upto reads a number that is not too great.
func (r *Reader) Upto(most int) int {
	if most < 0 {
		r.fail()
		return 0
	}
	return int(r.number(uint64(most)))
}

// Text reads a text.
func (r *Reader) Text() []byte {
	if r.Wrong() {
		return nil
	}
	n, size := first(r.bytes[r.place:])
	// The place is turned only when all of the text is there: else it stays ahead of its length.
	if size == 0 || n > api.MaxText || int(n) > r.Left()-size {
		r.fail()
		return nil
	}
	from := r.place + size
	r.place = from + int(n)
	return join(r.bytes[from:r.place])
}

// Hash reads a hash.
func (r *Reader) Hash() api.Hash {
	var h api.Hash
	if r.Wrong() {
		return h
	}
	if r.Left() < len(h) {
		r.fail()
		return h
	}
	r.place += copy(h[:], r.bytes[r.place:])
	return h
}

// Left is how many bytes are left.
func (r *Reader) Left() int {
	if r == nil {
		return 0
	}
	return len(r.bytes) - r.place
}

// Wrong tells whether something was.
func (r *Reader) Wrong() bool { return r == nil || !r.right }

// Done tells whether nothing was, and none are left.
func (r *Reader) Done() bool { return !r.Wrong() && r.Left() == 0 }

// number reads a number that is most at most.
func (r *Reader) number(most uint64) uint64 {
	if r.Wrong() {
		return 0
	}
	n, size := first(r.bytes[r.place:])
	if size == 0 || n > most {
		r.fail()
		return 0
	}
	r.place += size
	return n
}

// fail notes that something was wrong.
func (r *Reader) fail() {
	if r != nil {
		r.right = false
	}
}

// first is the number that bytes begin with, and how many bytes it has: none, if they begin with no number.
func first(b []byte) (uint64, int) {
	n := uint64(0)
	for i := 0; i < len(b) && i < longest; i++ {
		c := b[i]
		n |= uint64(c&127) << (7 * i)
		if c >= 128 {
			continue
		}
		if c == 0 && i > 0 { // fewer bytes would do
			return 0, 0
		}
		if i == longest-1 && c > 1 { // more than 64 bits
			return 0, 0
		}
		return n, i + 1
	}
	return 0, 0
}
