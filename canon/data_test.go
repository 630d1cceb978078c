package canon_test

import (
	"math"
	"math/rand"
	"strings"
	"testing"

	"pigeonloft/api"
	"pigeonloft/canon"
	"pigeonloft/eid"
)

func ipn(node, service uint64) eid.Eid { return eid.Eid{Ipn: true, Node: node, Service: service} }

func dtn(host, demux string) eid.Eid { return eid.Eid{Host: host, Demux: demux} }

func anyName(r *rand.Rand) eid.Eid {
	switch r.Intn(3) {
	case 0:
		return eid.Eid{}
	case 1:
		return ipn(max(1, uint64(r.Uint32())>>r.Intn(32)), uint64(r.Uint32())>>r.Intn(32))
	}
	return dtn("loft-7"[r.Intn(6):], "in/3-4"[r.Intn(7):])
}

func anyAge(r *rand.Rand) uint64 {
	return min(most, r.Uint64()>>(23+r.Intn(41)))
}

// places are Numbers and types of sums that a block may have, and those that it may not.
func places(try func(number uint64, sum int, ok bool)) {
	for _, number := range []uint64{0, 1, 2, 24, 255, 256, 257, 1<<32 + 1, math.MaxUint64} {
		for _, sum := range []int{math.MinInt, -1, 0, 1, 2, 3, 257, math.MaxInt} {
			try(number, sum, 1 <= number && number <= 255 && 0 <= sum && sum <= 2)
		}
	}
}

// checkMade checks a block that was made, or wasn't.
func checkMade(t *testing.T, what string, b canon.Block, e api.Errno, want canon.Block, ok bool) {
	t.Helper()
	if !ok {
		if e != api.ErrForm || !isZero(b) {
			t.Errorf("%s(%d, %d): %v %v", what, want.Number, want.Sum, b, e)
		}
		return
	}
	if e != api.OK || !alike(b, want) || !canon.Right(b) || cap(b.Data) != len(b.Data) {
		t.Errorf("%s(%d, %d): %v %v, want %v", what, want.Number, want.Sum, b, e, want)
	}
}

func TestOfPrevious(t *testing.T) {
	for _, c := range []struct {
		n    eid.Eid
		data string
	}{
		{eid.Eid{}, "\x82\x01\x00"}, {ipn(1, 0), "\x82\x02\x82\x01\x00"}, {ipn(7, 1), "\x82\x02\x82\x07\x01"}, {ipn(500, 24), "\x82\x02\x82\x19\x01\xF4\x18\x18"}, {ipn(math.MaxUint32, math.MaxUint32), "\x82\x02\x82\x1A\xFF\xFF\xFF\xFF\x1A\xFF\xFF\xFF\xFF"},
		{dtn("a", ""), "\x82\x01\x64//a/"}, {dtn("loft", "in"), "\x82\x01\x69//loft/in"}, {dtn(strings.Repeat("-", 16), strings.Repeat("/", 24)), "\x82\x01\x78\x2B//----------------/" + strings.Repeat("/", 24)},
	} {
		places(func(number uint64, sum int, ok bool) {
			want := canon.Block{Type: 6, Number: number, Sum: sum, Data: []byte(c.data)}
			b, e := canon.OfPrevious(number, sum, c.n)
			checkMade(t, "OfPrevious", b, e, want, ok)
			n, e := canon.PreviousOf(want)
			if ok && (e != api.OK || n != c.n) || !ok && (e != api.ErrForm || n != eid.Eid{}) {
				t.Errorf("PreviousOf(%v): %v %v", want, n, e)
			}
		})
	}
	for _, n := range []eid.Eid{{Ipn: true}, ipn(0, 1), ipn(1<<32, 0), ipn(1, 1<<32), {Service: 1}, {Node: 1, Host: "a"}, {Ipn: true, Node: 1, Host: "a"}, dtn("", "a"), dtn("A", ""), dtn("a", "\xFF"), dtn(strings.Repeat("a", 17), ""), dtn("a", strings.Repeat("a", 25)), dtn("a", strings.Repeat("a", 100000))} {
		b, e := canon.OfPrevious(2, 0, n)
		checkMade(t, "OfPrevious", b, e, canon.Block{Number: 2}, false)
	}
}

func TestOfAge(t *testing.T) {
	for _, c := range []struct {
		n    uint64
		data string
	}{
		{0, "\x00"}, {1, "\x01"}, {23, "\x17"}, {24, "\x18\x18"}, {255, "\x18\xFF"}, {256, "\x19\x01\x00"}, {500, "\x19\x01\xF4"}, {65535, "\x19\xFF\xFF"}, {65536, "\x1A\x00\x01\x00\x00"}, {1<<32 - 1, "\x1A\xFF\xFF\xFF\xFF"}, {1 << 32, "\x1B\x00\x00\x00\x01\x00\x00\x00\x00"}, {most - 1, "\x1B\x00\x00\x00\xFF\xFF\xFF\xFF\xFF"}, {most, "\x1B\x00\x00\x01\x00\x00\x00\x00\x00"},
	} {
		places(func(number uint64, sum int, ok bool) {
			want := canon.Block{Type: 7, Number: number, Sum: sum, Data: []byte(c.data)}
			b, e := canon.OfAge(number, sum, c.n)
			checkMade(t, "OfAge", b, e, want, ok)
			n, e := canon.AgeOf(want)
			if ok && (e != api.OK || n != c.n) || !ok && (e != api.ErrForm || n != 0) {
				t.Errorf("AgeOf(%v): %d %v", want, n, e)
			}
		})
	}
	for _, n := range []uint64{most + 1, 2 * most, 1 << 63, math.MaxUint64} {
		b, e := canon.OfAge(2, 0, n)
		checkMade(t, "OfAge", b, e, canon.Block{Number: 2}, false)
	}
}

func TestOfHops(t *testing.T) {
	for _, c := range []struct {
		limit, count uint64
		data         string
	}{
		{1, 0, "\x82\x01\x00"}, {1, 1, "\x82\x01\x01"}, {9, 8, "\x82\x09\x08"}, {9, 9, "\x82\x09\x09"}, {23, 0, "\x82\x17\x00"}, {24, 24, "\x82\x18\x18\x18\x18"}, {254, 254, "\x82\x18\xFE\x18\xFE"}, {255, 0, "\x82\x18\xFF\x00"}, {255, 254, "\x82\x18\xFF\x18\xFE"}, {255, 255, "\x82\x18\xFF\x18\xFF"},
	} {
		places(func(number uint64, sum int, ok bool) {
			want := canon.Block{Type: 10, Number: number, Sum: sum, Data: []byte(c.data)}
			b, e := canon.OfHops(number, sum, c.limit, c.count)
			checkMade(t, "OfHops", b, e, want, ok)
			limit, count, e := canon.HopsOf(want)
			if ok && (e != api.OK || limit != c.limit || count != c.count) || !ok && (e != api.ErrForm || limit != 0 || count != 0) {
				t.Errorf("HopsOf(%v): %d %d %v", want, limit, count, e)
			}
		})
	}
	for _, c := range [][2]uint64{{0, 0}, {0, 1}, {1, 2}, {9, 10}, {255, 256}, {256, 0}, {256, 256}, {257, 1}, {1 << 32, 0}, {1<<32 + 1, 1}, {5, 1<<32 + 1}, {5, math.MaxUint64}, {math.MaxUint64, 0}, {math.MaxUint64, math.MaxUint64}} {
		b, e := canon.OfHops(2, 0, c[0], c[1])
		checkMade(t, "OfHops", b, e, canon.Block{Number: 2}, false)
	}
}

// The flags, that no maker gives, don't keep a block from saying what it says.
func TestSaysWithFlags(t *testing.T) {
	b, _ := canon.OfAge(2, 1, 500)
	b.Flags = allFlags
	if n, e := canon.AgeOf(b); n != 500 || e != api.OK {
		t.Errorf("AgeOf: %d %v", n, e)
	}
	b, _ = canon.OfHops(2, 1, 5, 4)
	b.Flags = 4
	if limit, count, e := canon.HopsOf(b); limit != 5 || count != 4 || e != api.OK {
		t.Errorf("HopsOf: %d %d %v", limit, count, e)
	}
	b, _ = canon.OfPrevious(2, 1, ipn(7, 1))
	b.Flags = 16
	if n, e := canon.PreviousOf(b); n != ipn(7, 1) || e != api.OK {
		t.Errorf("PreviousOf: %v %v", n, e)
	}
	b.Flags = 8
	if n, e := canon.PreviousOf(b); n != (eid.Eid{}) || e != api.ErrForm {
		t.Errorf("PreviousOf: %v %v", n, e)
	}
}

// A block of another type tells ErrNone, be it right or not; one of the type that may not be ErrForm.
func TestSaysNothing(t *testing.T) {
	for _, b := range append(rights(), wrongs()...) {
		want := func(kind uint64) api.Errno {
			switch {
			case b.Type != kind:
				return api.ErrNone
			case !canon.Right(b):
				return api.ErrForm
			}
			return api.OK
		}
		if n, e := canon.PreviousOf(b); e != want(6) || e != api.OK && n != (eid.Eid{}) {
			t.Errorf("PreviousOf(%.80v): %v %v", b, n, e)
		}
		if n, e := canon.AgeOf(b); e != want(7) || e != api.OK && n != 0 {
			t.Errorf("AgeOf(%.80v): %d %v", b, n, e)
		}
		if limit, count, e := canon.HopsOf(b); e != want(10) || e != api.OK && (limit != 0 || count != 0) {
			t.Errorf("HopsOf(%.80v): %d %d %v", b, limit, count, e)
		}
	}
}

// What a block is made of is what it says, also when it was written and read.
func TestSaysWhatItIsMadeOf(t *testing.T) {
	r := rand.New(rand.NewSource(5))
	back := func(b canon.Block, e api.Errno) canon.Block {
		t.Helper()
		x, f := canon.Write(b)
		y, g := canon.Read(x)
		if e != api.OK || f != api.OK || g != api.OK {
			t.Fatalf("%v: %v %v %v", b, e, f, g)
		}
		return y
	}
	for range 3000 {
		number, sum := 1+uint64(r.Intn(255)), r.Intn(3)
		n, age, limit := anyName(r), anyAge(r), 1+uint64(r.Intn(255))
		count := uint64(r.Intn(int(limit) + 1))
		if got, e := canon.PreviousOf(back(canon.OfPrevious(number, sum, n))); e != api.OK || got != n {
			t.Fatalf("PreviousOf: %v %v, want %v", got, e, n)
		}
		if got, e := canon.AgeOf(back(canon.OfAge(number, sum, age))); e != api.OK || got != age {
			t.Fatalf("AgeOf: %v %v, want %v", got, e, age)
		}
		if l, c, e := canon.HopsOf(back(canon.OfHops(number, sum, limit, count))); e != api.OK || l != limit || c != count {
			t.Fatalf("HopsOf: %v %v %v, want %v %v", l, c, e, limit, count)
		}
	}
}
