// Package head writes and reads the heads of items: layer 2, see shared/doc/02-head.md.
package head

import (
	"math/bits"

	"pigeonloft/api"
)

// What the five lower bits of the first byte say, where they are not the number itself.
const (
	oneMore  = 24
	lastMore = 27
	openBits = 31
)

// Head is the head of an item: a Major and a number, or a Major and Open.
type Head struct {
	Major int
	N     uint64
	Open  bool
}

// Right tells whether a head may be.
func Right(h Head) bool {
	if h.Open {
		return h == Head{Major: h.Major, Open: true} && mayOpen(h.Major)
	}
	return 0 <= h.Major && h.Major <= 7
}

func mayOpen(major int) bool {
	return 2 <= major && major <= 5 || major == 7
}

// Size is how many a head's shortest bytes are; 0 of one that may not be.
func Size(h Head) int {
	if !Right(h) {
		return 0
	}
	return 1 + following(lowBits(h))
}

// lowBits are the five lower bits of the first one of a right head's shortest bytes.
func lowBits(h Head) int {
	if h.Open {
		return openBits
	}
	if h.N < oneMore {
		return int(h.N)
	}
	switch n := bits.Len64(h.N); {
	case n <= 8:
		return oneMore
	case n <= 16:
		return oneMore + 1
	case n <= 32:
		return oneMore + 2
	}
	return lastMore
}

// following is how many bytes come behind a first one with these lower bits.
func following(low int) int {
	if low < oneMore || low > lastMore {
		return 0
	}
	return 1 << (low - oneMore)
}

// Write is a head's shortest bytes.
func Write(h Head) ([]byte, api.Errno) {
	if !Right(h) {
		return nil, api.ErrForm
	}
	low := lowBits(h)
	more := following(low)
	b := make([]byte, 1+more)
	b[0] = byte(h.Major<<5 | low)
	for i := range more {
		b[more-i] = byte(h.N >> (8 * i))
	}
	return b, api.OK
}

// Read reads the head at a place, and tells the place behind it.
func Read(b []byte, at int) (Head, int, api.Errno) {
	if at < 0 || at > len(b) {
		return Head{}, 0, api.ErrArg
	}
	b = b[at:]
	if len(b) == 0 {
		return Head{}, 0, api.ErrShort
	}
	major, low := int(b[0]>>5), int(b[0]&31)
	more := following(low)
	if len(b)-1 < more {
		return Head{}, 0, api.ErrShort
	}
	if low > lastMore {
		return readOpen(major, low, at)
	}
	n := uint64(low)
	if more > 0 {
		n = joined(b[1 : 1+more])
	}
	return Head{Major: major, N: n}, at + 1 + more, api.OK
}

func readOpen(major, low, at int) (Head, int, api.Errno) {
	if low != openBits || !mayOpen(major) {
		return Head{}, 0, api.ErrForm
	}
	return Head{Major: major, Open: true}, at + 1, api.OK
}

func joined(b []byte) uint64 {
	n := uint64(0)
	for i := range len(b) {
		n = n<<8 | uint64(b[i])
	}
	return n
}

// Shortest tells whether a head is read at a place, and written as short as may be.
func Shortest(b []byte, at int) bool {
	h, next, e := Read(b, at)
	return e == api.OK && next-at == Size(h)
}
