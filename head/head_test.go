package head_test

import (
	"bytes"
	"encoding/binary"
	"encoding/hex"
	"math"
	"math/rand"
	"strings"
	"testing"

	"pigeonloft/api"
	"pigeonloft/head"
)

var numbers = []uint64{
	0, 1, 22, 23, 24, 25, 30, 31, 32, 100, 254, 255,
	256, 257, 500, 1000, 65534, 65535,
	65536, 65537, 1000000, 1<<32 - 2, 1<<32 - 1,
	1 << 32, 1<<32 + 1, 1000000000000, 1<<40 + 1, 1<<56 - 1, 1 << 63, 1<<64 - 2, 1<<64 - 1,
}

// opens tells of the Majors from 0 to 7 which may be open.
var opens = [8]bool{2: true, 3: true, 4: true, 5: true, 7: true}

// rights are heads that may be, of all Majors.
func rights() []head.Head {
	var l []head.Head
	for major := range 8 {
		for _, n := range numbers {
			l = append(l, head.Head{Major: major, N: n})
		}
		if opens[major] {
			l = append(l, head.Head{Major: major, Open: true})
		}
	}
	return l
}

// wrongs are heads that may not be.
func wrongs() []head.Head {
	var l []head.Head
	for _, major := range []int{math.MinInt, -8, -7, -2, -1, 8, 9, 15, 16, 256, 263, math.MaxInt} {
		l = append(l, head.Head{Major: major}, head.Head{Major: major, N: 500}, head.Head{Major: major, Open: true})
	}
	for major := range 8 {
		for _, n := range numbers[1:] {
			l = append(l, head.Head{Major: major, N: n, Open: true})
		}
		if !opens[major] {
			l = append(l, head.Head{Major: major, Open: true})
		}
	}
	return l
}

// longer are a number's bytes with these lower bits of the first byte.
func longer(major int, n uint64, low byte) []byte {
	all := binary.BigEndian.AppendUint64(nil, n)
	return append([]byte{byte(major)<<5 | low}, all[8-(1<<(low-24)):]...)
}

// least is how many bytes a number takes at least, read off the words of the document.
func least(n uint64) int {
	for _, x := range []struct {
		below uint64
		size  int
	}{{24, 1}, {1 << 8, 2}, {1 << 16, 3}, {1 << 32, 5}} {
		if n < x.below {
			return x.size
		}
	}
	return 9
}

func TestRightAndSize(t *testing.T) {
	for _, h := range rights() {
		want := 1
		if !h.Open {
			want = least(h.N)
		}
		if !head.Right(h) {
			t.Errorf("Right(%v): it may be", h)
		}
		if n := head.Size(h); n != want {
			t.Errorf("Size(%v): %d, not %d", h, n, want)
		}
	}
	for _, h := range wrongs() {
		if head.Right(h) {
			t.Errorf("Right(%v): it may not be", h)
		}
		if n := head.Size(h); n != 0 {
			t.Errorf("Size(%v): %d, not 0", h, n)
		}
	}
}

func TestWriteKnown(t *testing.T) {
	for _, x := range []struct {
		h    head.Head
		text string
	}{
		{head.Head{}, "00"},
		{head.Head{N: 23}, "17"},
		{head.Head{N: 24}, "1818"},
		{head.Head{N: 255}, "18ff"},
		{head.Head{N: 256}, "190100"},
		{head.Head{N: 500}, "1901f4"},
		{head.Head{N: 65535}, "19ffff"},
		{head.Head{N: 65536}, "1a00010000"},
		{head.Head{N: 1000000}, "1a000f4240"},
		{head.Head{N: 1<<32 - 1}, "1affffffff"},
		{head.Head{N: 1 << 32}, "1b0000000100000000"},
		{head.Head{N: 1000000000000}, "1b000000e8d4a51000"},
		{head.Head{N: 1<<64 - 1}, "1bffffffffffffffff"},
		{head.Head{Major: 1, N: 9}, "29"},
		{head.Head{Major: 1, N: 99}, "3863"},
		{head.Head{Major: 2, N: 4}, "44"},
		{head.Head{Major: 3, N: 0x0102}, "790102"},
		{head.Head{Major: 4, N: 25}, "9819"},
		{head.Head{Major: 5, N: 0x01020304}, "ba01020304"},
		{head.Head{Major: 6, N: 0x0102030405060708}, "db0102030405060708"},
		{head.Head{Major: 7, N: 20}, "f4"},
		{head.Head{Major: 7, N: 0x8040}, "f98040"},
		{head.Head{Major: 2, Open: true}, "5f"},
		{head.Head{Major: 3, Open: true}, "7f"},
		{head.Head{Major: 4, Open: true}, "9f"},
		{head.Head{Major: 5, Open: true}, "bf"},
		{head.Head{Major: 7, Open: true}, "ff"},
	} {
		b, e := head.Write(x.h)
		if e != api.OK || hex.EncodeToString(b) != x.text {
			t.Errorf("Write(%v): %x %v, not %s", x.h, b, e, x.text)
		}
	}
}

func TestWriteWrong(t *testing.T) {
	for _, h := range wrongs() {
		if b, e := head.Write(h); e != api.ErrForm || len(b) != 0 {
			t.Errorf("Write(%v): %x %v", h, b, e)
		}
	}
}

func TestWriteIsNewMemory(t *testing.T) {
	for _, h := range []head.Head{{N: 5}, {N: 500}, {Major: 4, Open: true}} {
		a, _ := head.Write(h)
		kept := bytes.Clone(a)
		for i := range a {
			a[i] = ^a[i]
		}
		if b, e := head.Write(h); e != api.OK || !bytes.Equal(b, kept) {
			t.Errorf("Write(%v), once more: %x %v", h, b, e)
		}
	}
}

func TestThereAndBack(t *testing.T) {
	for _, h := range rights() {
		b, e := head.Write(h)
		if e != api.OK || len(b) != head.Size(h) {
			t.Fatalf("Write(%v): %x %v", h, b, e)
		}
		for _, front := range []string{"", "\x1b", "\xff\x00\x18"} {
			for _, behind := range []string{"", "\x00", "\x1c\xff"} {
				all := []byte(front + string(b) + behind)
				got, next, e := head.Read(all, len(front))
				if e != api.OK || got != h || next != len(front)+len(b) {
					t.Errorf("Read(%x, %d): %v %d %v, not %v", all, len(front), got, next, e, h)
				}
				if !head.Shortest(all, len(front)) {
					t.Errorf("Shortest(%x, %d)", all, len(front))
				}
			}
		}
	}
}

func TestLongerWays(t *testing.T) {
	for major := range 8 {
		for _, n := range numbers {
			for low := byte(24); low <= 27; low++ {
				if low < 27 && n>>(8<<(low-24)) != 0 {
					continue
				}
				b := longer(major, n, low)
				h, next, e := head.Read(append([]byte{0}, b...), 1)
				if e != api.OK || h != (head.Head{Major: major, N: n}) || next != 1+len(b) {
					t.Errorf("Read(%x): %v %d %v", b, h, next, e)
				}
				if s := head.Shortest(b, 0); s != (len(b) == least(n)) {
					t.Errorf("Shortest(%x): %v", b, s)
				}
			}
		}
	}
}

// refused asks Read and Shortest for what is none there.
func refused(t *testing.T, b []byte, at int, want api.Errno) {
	t.Helper()
	if h, next, e := head.Read(b, at); e != want || h != (head.Head{}) || next != 0 {
		t.Errorf("Read(%x, %d): %v %d %v, not %v", b, at, h, next, e, want)
	}
	if head.Shortest(b, at) {
		t.Errorf("Shortest(%x, %d)", b, at)
	}
}

func TestReadOffTheBytes(t *testing.T) {
	b := []byte{0x19, 1, 0xF4}
	for _, l := range [][]byte{nil, {}, b} {
		for _, at := range []int{math.MinInt, -2, -1, len(l) + 1, len(l) + 2, math.MaxInt - 8, math.MaxInt} {
			refused(t, l, at, api.ErrArg)
		}
		refused(t, l, len(l), api.ErrShort)
	}
	if h, next, e := head.Read(b, 1); e != api.OK || h != (head.Head{N: 1}) || next != 2 {
		t.Errorf("within: %v %d %v", h, next, e)
	}
}

func TestReadShort(t *testing.T) {
	for major := range 8 {
		for low := byte(24); low <= 27; low++ {
			b := longer(major, 1<<64-1, low)
			for n := range b {
				refused(t, b[:n], 0, api.ErrShort)
				refused(t, append([]byte{0, 1}, b[:n]...), 2, api.ErrShort)
				refused(t, bytes.Clone(b[:n]), 0, api.ErrShort)
			}
		}
	}
}

func TestReadNoHead(t *testing.T) {
	behind := strings.Repeat("\x01", 16)
	for major := range 8 {
		for low := 28; low <= 31; low++ {
			first := string([]byte{byte(major<<5 | low)})
			for _, b := range []string{first, first + behind} {
				if low < 31 || !opens[major] {
					refused(t, []byte(b), 0, api.ErrForm)
					refused(t, []byte("\x00"+b), 1, api.ErrForm)
					continue
				}
				h, next, e := head.Read([]byte(b), 0)
				if e != api.OK || h != (head.Head{Major: major, Open: true}) || next != 1 || !head.Shortest([]byte(b), 0) {
					t.Errorf("Read(%x): %v %d %v", b, h, next, e)
				}
			}
		}
	}
}

func TestReadLeavesItsBytes(t *testing.T) {
	whole := []byte{0x1A, 1, 2, 3, 4, 5}
	b := whole[:5]
	head.Read(b, 0)
	head.Shortest(b, 0)
	if !bytes.Equal(whole, []byte{0x1A, 1, 2, 3, 4, 5}) {
		t.Errorf("changed: %x", whole)
	}
	refused(t, whole[:4], 0, api.ErrShort)
}

// Whatever is read is right, ends where it is told to, and is shortest just where its own bytes stand.
func TestReadWhateverComes(t *testing.T) {
	r := rand.New(rand.NewSource(4))
	for range 20000 {
		b := make([]byte, r.Intn(12))
		r.Read(b)
		for at := -1; at <= len(b)+1; at++ {
			h, next, e := head.Read(b, at)
			if e != api.OK {
				refused(t, b, at, e)
				continue
			}
			w, we := head.Write(h)
			if we != api.OK || !head.Right(h) || next <= at || next > len(b) || next-at < len(w) {
				t.Fatalf("Read(%x, %d): %v %d", b, at, h, next)
			}
			if head.Shortest(b, at) != bytes.Equal(b[at:next], w) {
				t.Fatalf("Shortest(%x, %d)", b, at)
			}
		}
	}
}
