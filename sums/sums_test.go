package sums_test

import (
	"bytes"
	"hash/crc32"
	"math/bits"
	"math/rand"
	"sync"
	"testing"

	"pigeonloft/sums"
)

// shortOther goes from the highest bit down, with all bits turned round before and behind: another way than the package's.
func shortOther(b []byte) uint16 {
	s := uint16(0xFFFF)
	for _, x := range b {
		s ^= uint16(bits.Reverse8(x)) << 8
		for range 8 {
			if s&0x8000 != 0 {
				s = s<<1 ^ 0x1021
			} else {
				s <<= 1
			}
		}
	}
	return ^bits.Reverse16(s)
}

func longOther(b []byte) uint32 {
	return crc32.Checksum(b, crc32.MakeTable(crc32.Castagnoli))
}

// texts are bytes of many lengths, each byte among them.
func texts() [][]byte {
	r := rand.New(rand.NewSource(1))
	l := [][]byte{nil, {}}
	for i := range 256 {
		l = append(l, []byte{byte(i)})
	}
	for n := range 70 {
		b := make([]byte, n)
		r.Read(b)
		l = append(l, b, make([]byte, n), bytes.Repeat([]byte{0xFF}, n))
	}
	for _, n := range []int{255, 256, 257, 1000, 4096} {
		b := make([]byte, n)
		r.Read(b)
		l = append(l, b)
	}
	return l
}

func TestKnownSums(t *testing.T) {
	rising := make([]byte, 32)
	for i := range rising {
		rising[i] = byte(i)
	}
	for _, x := range []struct {
		b     []byte
		short uint16
		long  uint32
	}{
		{nil, 0, 0},
		{[]byte{}, 0, 0},
		{[]byte("123456789"), 0x906E, 0xE3069283},
		{[]byte{0}, 0xF078, 0x527D5351},
		{make([]byte, 32), shortOther(make([]byte, 32)), 0x8A9136AA},
		{bytes.Repeat([]byte{0xFF}, 32), shortOther(bytes.Repeat([]byte{0xFF}, 32)), 0x62A8AB43},
		{rising, shortOther(rising), 0x46DD794E},
	} {
		if s := sums.Short(x.b); s != x.short {
			t.Errorf("Short(%x): %04X, not %04X", x.b, s, x.short)
		}
		if s := sums.Long(x.b); s != x.long {
			t.Errorf("Long(%x): %08X, not %08X", x.b, s, x.long)
		}
	}
}

func TestSumsOfManyTexts(t *testing.T) {
	c := &sums.Counter{}
	for _, b := range texts() {
		if s := sums.Short(b); s != shortOther(b) {
			t.Fatalf("Short(%x): %04X, not %04X", b, s, shortOther(b))
		}
		if s := sums.Long(b); s != longOther(b) {
			t.Fatalf("Long(%x): %08X, not %08X", b, s, longOther(b))
		}
		if s := c.Long(b); s != longOther(b) {
			t.Fatalf("a counter's Long(%x): %08X, not %08X", b, s, longOther(b))
		}
	}
}

func TestCounterCounts(t *testing.T) {
	c := &sums.Counter{}
	if n := c.Asked(); n != 0 {
		t.Errorf("asked of a new one: %d", n)
	}
	for i, b := range [][]byte{nil, {}, []byte("a"), []byte("a"), make([]byte, 1000)} {
		if s := c.Long(b); s != longOther(b) {
			t.Errorf("Long(%x): %08X", b, s)
		}
		if n := c.Asked(); n != int64(i+1) {
			t.Errorf("asked behind %d: %d", i+1, n)
		}
		if n := c.Asked(); n != int64(i+1) {
			t.Errorf("to be asked how often is none of them: %d", n)
		}
	}
	sums.Long([]byte("a"))
	sums.Short([]byte("a"))
	if n := c.Asked(); n != 5 {
		t.Errorf("the package's own sums are none of a counter's: %d", n)
	}
}

func TestCountersCountAlone(t *testing.T) {
	a, b := &sums.Counter{}, new(sums.Counter)
	a.Long([]byte("x"))
	a.Long([]byte("x"))
	b.Long([]byte("x"))
	if a.Asked() != 2 || b.Asked() != 1 {
		t.Errorf("asked: %d and %d", a.Asked(), b.Asked())
	}
}

func TestNilCounter(t *testing.T) {
	var c *sums.Counter
	for _, b := range [][]byte{nil, {}, []byte("123456789"), {0, 0xFF}} {
		if s := c.Long(b); s != longOther(b) {
			t.Errorf("Long(%x) of nil: %08X", b, s)
		}
		if n := c.Asked(); n != 0 {
			t.Errorf("asked of nil: %d", n)
		}
	}
}

func TestManyAskAtOnce(t *testing.T) {
	const many, each = 16, 500
	c := &sums.Counter{}
	b := []byte("123456789")
	wrong := make([]int, many)
	start := make(chan struct{})
	var all sync.WaitGroup
	for i := range many {
		all.Add(1)
		go func() {
			defer all.Done()
			<-start
			for range each {
				if c.Long(b) != 0xE3069283 {
					wrong[i]++
				}
				c.Asked()
			}
		}()
	}
	close(start)
	all.Wait()
	for i, n := range wrong {
		if n > 0 {
			t.Errorf("asker %d: %d wrong sums", i, n)
		}
	}
	if n := c.Asked(); n != many*each {
		t.Errorf("asked: %d, not %d", n, many*each)
	}
}

func TestSumsLeaveTheirBytes(t *testing.T) {
	whole := []byte("abcdefgh")
	b := whole[:4]
	short, long := sums.Short(b), sums.Long(b)
	c := &sums.Counter{}
	counted := c.Long(b)
	if string(whole) != "abcdefgh" {
		t.Errorf("changed: %q", whole)
	}
	copy(whole[4:], "????")
	if sums.Short(b) != short || sums.Long(b) != long || c.Long(b) != counted {
		t.Error("what lies behind the length is in the sum")
	}
	copy(whole, "????")
	if c.Long([]byte("abcd")) != counted {
		t.Error("a counter keeps what it was handed")
	}
}

// turned has the bits of pattern turned, from bit at on, the lowest of a byte first.
func turned(b []byte, at int, pattern uint64) []byte {
	b = bytes.Clone(b)
	for ; pattern != 0; at, pattern = at+1, pattern>>1 {
		if pattern&1 == 1 {
			b[at/8] ^= 1 << (at % 8)
		}
	}
	return b
}

func TestShortBursts(t *testing.T) {
	base := []byte{0x31, 0, 0xFF, 0x80, 7}
	sum := sums.Short(base)
	for at := range 8 * len(base) {
		for pattern := uint64(1); pattern < 1<<16; pattern += 2 {
			if at+bits.Len64(pattern) > 8*len(base) {
				continue
			}
			if sums.Short(turned(base, at, pattern)) == sum {
				t.Fatalf("the burst %b at %d isn't seen", pattern, at)
			}
		}
	}
}

func TestLongBursts(t *testing.T) {
	r := rand.New(rand.NewSource(2))
	base := make([]byte, 40)
	r.Read(base)
	sum := sums.Long(base)
	c := &sums.Counter{}
	seen := func(at int, pattern uint64) {
		if at+bits.Len64(pattern) > 8*len(base) {
			return
		}
		b := turned(base, at, pattern)
		if sums.Long(b) == sum || c.Long(b) == sum {
			t.Fatalf("the burst %b at %d isn't seen", pattern, at)
		}
	}
	for at := range 8 * len(base) {
		seen(at, 1<<32-1)
		for w := range 32 {
			seen(at, 1|1<<w)
		}
		for range 300 {
			seen(at, uint64(r.Uint32())|1)
		}
	}
}

// The polynomial itself, one bit wider than the sum, is the shortest burst that no sum of its kind sees: the promise ends just there.
func TestBurstsOneWider(t *testing.T) {
	base := make([]byte, 9)
	short := uint64(bits.Reverse16(0x8408)) | 1<<16
	if sums.Short(turned(base, 3, reversed(short, 17))) != sums.Short(base) {
		t.Error("the short sum's polynomial is another one")
	}
	long := uint64(bits.Reverse32(0x82F63B78)) | 1<<32
	if sums.Long(turned(base, 3, reversed(long, 33))) != sums.Long(base) {
		t.Error("the long sum's polynomial is another one")
	}
}

func reversed(x uint64, width int) uint64 {
	return bits.Reverse64(x) >> (64 - width)
}

func TestThreeTexts(t *testing.T) {
	r := rand.New(rand.NewSource(3))
	c := &sums.Counter{}
	for n := range 100 {
		p, q, s, all := make([]byte, n), make([]byte, n), make([]byte, n), make([]byte, n)
		r.Read(p)
		r.Read(q)
		r.Read(s)
		for i := range all {
			all[i] = p[i] ^ q[i] ^ s[i]
		}
		if sums.Short(p)^sums.Short(q)^sums.Short(s) != sums.Short(all) {
			t.Errorf("short sums of %d bytes", n)
		}
		if sums.Long(p)^sums.Long(q)^sums.Long(s) != sums.Long(all) {
			t.Errorf("long sums of %d bytes", n)
		}
		if c.Long(p)^c.Long(q)^c.Long(s) != c.Long(all) {
			t.Errorf("a counter's sums of %d bytes", n)
		}
	}
}
