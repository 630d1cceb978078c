package bundle_test

import (
	"bytes"
	"math/rand"
	"slices"
	"strings"
	"testing"

	"pigeonloft/api"
	"pigeonloft/bundle"
	"pigeonloft/canon"
	"pigeonloft/cbor"
	"pigeonloft/eid"
	"pigeonloft/head"
	"pigeonloft/ident"
	"pigeonloft/primary"
)

// longer writes an item in one of the ways in which it may be read, that a number chooses at each head.
func longer(x cbor.Item, choose func(n int) int) []byte {
	switch x.Kind {
	case 0:
		return longHead(0, x.N, choose(5))
	case 4:
		return longList(x, choose)
	}
	if choose(2) == 0 {
		return append(longHead(x.Kind, uint64(len(x.B)), choose(5)), x.B...)
	}
	w, rest := []byte{byte(x.Kind<<5 | 31)}, x.B
	for range choose(4) { // pieces, of which any may be empty
		n := choose(len(rest) + 1)
		w = append(append(w, longHead(x.Kind, uint64(n), choose(5))...), rest[:n]...)
		rest = rest[n:]
	}
	w = append(append(w, longHead(x.Kind, uint64(len(rest)), choose(5))...), rest...)
	return append(w, 0xFF)
}

func longList(x cbor.Item, choose func(n int) int) []byte {
	open := choose(2) == 1
	w := []byte{0x9F}
	if !open {
		w = longHead(4, uint64(len(x.L)), choose(5))
	}
	for _, y := range x.L {
		w = append(w, longer(y, choose)...)
	}
	if open {
		w = append(w, 0xFF)
	}
	return w
}

// longHead is a head of that length at least: 0 is one byte, 1 to 4 are 1, 2, 4 and 8 more.
func longHead(major int, n uint64, length int) []byte {
	w, _ := head.Write(head.Head{Major: major, N: n})
	if length == 0 || 1<<(length-1) < len(w) {
		return w
	}
	w = []byte{byte(major<<5 | 23 + length)}
	for i := 1<<(length-1) - 1; i >= 0; i-- {
		w = append(w, byte(n>>(8*i)))
	}
	return w
}

func itemOf(b bundle.Bundle) cbor.Item {
	p, e := primary.Write(b.Primary)
	if e != api.OK {
		panic(e)
	}
	return cbor.List(append([]cbor.Item{p}, blockItems(b)...)...)
}

func shortest(int) int { return 0 }

// openAlone is a list that is open around the shortest bytes of its items.
func openAlone(x cbor.Item) []byte {
	w := []byte{0x9F}
	for _, y := range x.L {
		w = append(w, longer(y, shortest)...)
	}
	return append(w, 0xFF)
}

func fail(t *testing.T, what string, w []byte, want api.Errno) {
	t.Helper()
	if b, e := bundle.Read(w); e != want || !isZero(b) {
		t.Errorf("Read of %s, %.200x: %v %v, want %v", what, w, b, e, want)
	}
	if bundle.Shortest(w) {
		t.Errorf("Shortest of %s, %.200x: true", what, w)
	}
}

func TestReadRight(t *testing.T) {
	for _, b := range rights() {
		w, _ := bundle.Write(b)
		before := slices.Clone(w)
		x, e := bundle.Read(w)
		if e != api.OK || !alike(x, b) || !bytes.Equal(w, before) {
			t.Fatalf("Read(%x): %v %v", w, x, e)
		}
		if cap(x.Blocks) != len(x.Blocks) {
			t.Errorf("there are %d blocks, and room for %d", len(x.Blocks), cap(x.Blocks))
		}
		for i := range w {
			w[i] = '?'
		}
		if !alike(x, b) {
			t.Errorf("what was read hangs on what was handed in: %v", x)
		}
	}
}

// In whatever way a bundle is written, it is read as the same one; one way alone is its own.
func TestReadLonger(t *testing.T) {
	r := rand.New(rand.NewSource(1))
	count := 0
	for _, b := range rights() {
		own, _ := bundle.Write(b)
		for range 500 {
			often := r.Intn(60) + 1
			w := longer(itemOf(b), func(n int) int {
				if r.Intn(often) == 0 {
					return r.Intn(n)
				}
				return 0
			})
			if len(w) > 2*api.MaxBundle {
				fail(t, "too many bytes", w, api.ErrLong)
				continue
			}
			count++
			x, e := bundle.Read(w)
			if e != api.OK || !alike(x, b) {
				t.Fatalf("Read(%x): %v %v, want %v", w, x, e, b)
			}
			if bundle.Shortest(w) != bytes.Equal(w, own) {
				t.Fatalf("Shortest(%x): %v", w, bundle.Shortest(w))
			}
		}
	}
	if count < 5000 {
		t.Errorf("only %d were read", count)
	}
}

func TestShortest(t *testing.T) {
	for _, b := range rights() {
		x := itemOf(b)
		own := openAlone(x)
		if !bundle.Shortest(own) {
			t.Errorf("Shortest(%x): false", own)
		}
		if w := longer(x, shortest); bundle.Shortest(w) { // a list that isn't open is shorter, but not the bundle's
			t.Errorf("Shortest(%x): true", w)
		}
		for n := range own {
			if bundle.Shortest(own[:n]) || bundle.Shortest(own[n+1:]) {
				t.Errorf("Shortest of a part: true")
			}
		}
		if bundle.Shortest(append(own, 0)) || bundle.Shortest(append(own, 0xFF)) || bundle.Shortest(append(own, own...)) || bundle.Shortest(append([]byte{0}, own...)) {
			t.Errorf("Shortest of more: true")
		}
	}
	for i, heads := 0, len(headPlaces(unhex(fullBytes))); i < heads; i++ { // each head by itself, as many bytes longer as may be
		at := headPlaces(unhex(fullBytes))[i]
		w := unhex(fullBytes)
		h, next, _ := head.Read(w, at)
		long := slices.Concat(w[:at], longHead(h.Major, h.N, 4), w[next:])
		if x, e := bundle.Read(long); e != api.OK || !alike(x, full()) || len(long) == len(w) {
			t.Errorf("Read(%x): %v %v", long, x, e)
		}
		if bundle.Shortest(long) {
			t.Errorf("Shortest(%x): true", long)
		}
	}
}

// headPlaces are where the heads stand of an item's bytes, but the one of a list that is open, and its end.
func headPlaces(w []byte) []int {
	var l []int
	for at := 1; at < len(w)-1; {
		h, next, e := head.Read(w, at)
		if e != api.OK {
			panic(e)
		}
		l = append(l, at)
		if h.Major == 2 || h.Major == 3 {
			next += int(h.N)
		}
		at = next
	}
	return l
}

// grown is the bytes of a bundle in so many bytes: an item of the list is open, with many empty pieces.
func grown(t *testing.T, n int) []byte {
	t.Helper()
	b := behind(payload("hi"))
	x := itemOf(b)
	w := openAlone(x)
	at := len(w) - 4
	if !bytes.Equal(w[at:], []byte("\x42hi\xFF")) {
		t.Fatalf("the bytes %x", w)
	}
	return slices.Concat(w[:at], []byte{0x5F}, bytes.Repeat([]byte{0x40}, n-len(w)-2), w[at:], []byte{0xFF})
}

func TestReadLong(t *testing.T) {
	for _, n := range []int{api.MaxBundle - 1, api.MaxBundle, api.MaxBundle + 1, 2*api.MaxBundle - 1, 2 * api.MaxBundle} {
		w := grown(t, n)
		if x, e := bundle.Read(w); len(w) != n || e != api.OK || !alike(x, behind(payload("hi"))) || bundle.Shortest(w) {
			t.Errorf("Read of %d bytes: %v %v", len(w), x, e)
		}
	}
	for _, n := range []int{2*api.MaxBundle + 1, 2*api.MaxBundle + 2, 4 * api.MaxBundle, 1 << 20} {
		w := grown(t, n)
		fail(t, "too many bytes", w, api.ErrLong)
		fail(t, "noughts", make([]byte, len(w)), api.ErrLong) // whatever they are
		fail(t, "no items", bytes.Repeat([]byte{0xFF}, len(w)), api.ErrLong)
		fail(t, "a list that is too deep", bytes.Repeat([]byte{0x81}, len(w)), api.ErrLong)
	}
	fail(t, "noughts", make([]byte, 2*api.MaxBundle), api.ErrForm)
	own, _ := bundle.Write(alone())
	fail(t, "bytes behind", append(own, make([]byte, 2*api.MaxBundle-len(own))...), api.ErrForm)
	fail(t, "bytes behind", append(own, make([]byte, 2*api.MaxBundle-len(own)+1)...), api.ErrLong)
}

// The item's own errors are those of its reading, ahead of all that it says.
func TestReadNoItem(t *testing.T) {
	for _, c := range []struct {
		w    string
		want api.Errno
	}{
		{"", api.ErrShort}, {"\x9F", api.ErrShort}, {"\x82", api.ErrShort}, {"\x82\x00", api.ErrShort}, {"\x9F\x00\x00", api.ErrShort}, {"\x98", api.ErrShort}, {"\x9B\xFF\xFF\xFF\xFF\xFF\xFF\xFF\xFF", api.ErrShort}, {"\x5F\x41", api.ErrShort},
		{"\xFF", api.ErrForm}, {"\x1C", api.ErrForm}, {"\x1F", api.ErrForm}, {"\x20", api.ErrForm}, {"\xA0", api.ErrForm}, {"\xC0\x00", api.ErrForm}, {"\xF5", api.ErrForm}, {"\x9F\xA0\xFF", api.ErrForm}, {"\x9F\x61\xFF\xFF", api.ErrForm},
		{"\x9F\x81\x81\x81\x81\x81\x81\x00\xFF", api.ErrDeep}, {"\x81\x81\x81\x81\x81\x81\x00", api.ErrDeep}, {"\x9F" + strings.Repeat("\x00", 256) + "\xFF", api.ErrLong}, {"\x99\x01\x00" + strings.Repeat("\x00", 256), api.ErrLong},
		{"\x9F" + strings.Repeat("\x00", 255) + "\xFF", api.ErrForm}, {"\x9F\x81\x81\x81\x81\x00\xFF", api.ErrForm},
	} {
		fail(t, "no item", []byte(c.w), c.want)
	}
	w := unhex(fullBytes)
	for n := range w {
		fail(t, "a part", w[:n], api.ErrShort)
	}
}

func TestReadNoBundle(t *testing.T) {
	own := unhex(fullBytes)
	x := itemOf(full())
	for _, w := range [][]byte{
		append(slices.Clone(own), 0), append(slices.Clone(own), 0xFF), append(slices.Clone(own), own...), append(slices.Clone(own), 0x5F), append(longer(x, shortest), 0), append(longer(x, shortest), 0xFF),
		{0}, {5}, {0x40}, {0x43, 1, 2, 3}, {0x60}, []byte("\x62hi"), {0x80}, {0x9F, 0xFF}, {0x81, 0}, {0x9F, 0, 0xFF}, {0x82, 0, 0}, {0x9F, 0, 0, 0xFF}, {0x9F, 0x80, 0x80, 0xFF},
		openAlone(cbor.List(x.L[0])), openAlone(cbor.List(x.L[1])), openAlone(cbor.List(x.L[5])), longer(cbor.List(x.L[0]), shortest), openAlone(cbor.List(x)), openAlone(cbor.List(x, x)), longer(x.L[0], shortest), longer(x.L[5], shortest),
	} {
		fail(t, "no bundle", w, api.ErrForm)
	}
	wrong := cbor.List(x.L...) // more than nine are told ahead of what they say
	wrong.L[0].L[8].B[0]++
	for _, n := range []int{10, 11, 30} {
		fail(t, "too many blocks", openAlone(cbor.List(append(wrong.L[:1:1], slices.Repeat(x.L[5:], n-1)...)...)), api.ErrForm)
	}
	fail(t, "nine, the first wrong", openAlone(cbor.List(append(wrong.L[:1:1], slices.Repeat(x.L[5:], 8)...)...)), api.ErrSum)
	fail(t, "two, the first wrong", openAlone(cbor.List(wrong.L[0], x.L[5])), api.ErrSum)
	fail(t, "one, and wrong", openAlone(cbor.List(wrong.L[0])), api.ErrForm)
	fail(t, "bytes behind what is wrong", append(openAlone(wrong), 0), api.ErrForm)
}

// The blocks are read in their order: the first one that is wrong tells its error.
func TestReadWrongBlocks(t *testing.T) {
	form := func(l []cbor.Item, at int) { l[at] = cbor.Num(5) }
	sum := func(l []cbor.Item, at int) { b := l[at].L[len(l[at].L)-1].B; b[len(b)-1]++ }
	b := full()
	for i := range b.Blocks {
		b.Blocks[i].Sum = 1 + i%2
	}
	for i := range 6 {
		for j := range 6 {
			x := cbor.List(itemOf(b).L...)
			form(x.L, i)
			if j != i {
				sum(x.L, j)
			}
			want := api.ErrForm
			if j < i {
				want = api.ErrSum
			}
			fail(t, "wrong blocks", openAlone(x), want)
			fail(t, "wrong blocks", longer(x, shortest), want)
		}
		x := cbor.List(itemOf(b).L...)
		sum(x.L, i)
		fail(t, "a wrong sum", openAlone(x), api.ErrSum)
	}
	x := itemOf(b)
	for i := range x.L { // another block's items, sealed as they should be
		for j := range x.L {
			if (i == 0) != (j == 0) {
				y := cbor.List(x.L...)
				y.L[i] = x.L[j]
				fail(t, "another block", openAlone(y), api.ErrForm)
			}
		}
	}
}

// Blocks that may be each by itself, but not together, are told when all were read.
func TestReadWrongPlaces(t *testing.T) {
	for _, b := range wrongPlaces() {
		x := itemOf(b)
		if len(x.L) < 2 || len(openAlone(x)) > 2*api.MaxBundle {
			continue
		}
		fail(t, "wrong places", openAlone(x), api.ErrForm)
		if len(x.L) > 9 {
			continue
		}
		b.Blocks = slices.Clone(b.Blocks)
		last := &b.Blocks[len(b.Blocks)-1]
		last.Sum = 1
		y := itemOf(b)
		w := y.L[len(y.L)-1].L[5].B
		w[0]++
		fail(t, "a wrong sum in wrong places", openAlone(y), api.ErrSum)
	}
	for _, n := range []int{api.MaxBundle, api.MaxBundle + 1} { // what counts is how long its own bytes are
		b := sized(n)
		want := api.OK
		if n > api.MaxBundle {
			want = api.ErrForm
		}
		for _, w := range [][]byte{openAlone(itemOf(b)), longer(itemOf(b), shortest), longer(itemOf(b), func(n int) int { return n - 1 })} {
			if x, e := bundle.Read(w); e != want || e == api.OK && !alike(x, b) || e != api.OK && !isZero(x) {
				t.Errorf("Read of %d bytes, of a bundle of %d: %v %v", len(w), n, x, e)
			}
		}
	}
}

func anyName(r *rand.Rand) eid.Eid {
	switch r.Intn(3) {
	case 0:
		return eid.Eid{}
	case 1:
		return ipn(max(1, uint64(r.Uint32())>>r.Intn(32)), uint64(r.Uint32())>>r.Intn(32))
	}
	return dtn("loft-7"[r.Intn(6):], "in/3-4"[r.Intn(7):])
}

func anyTime(r *rand.Rand) uint64 { return min(most, r.Uint64()>>(23+r.Intn(41))) }

// anyBundle is a bundle that may be.
func anyBundle(r *rand.Rand) bundle.Bundle {
	const allFlags = 2 | 4 | 32 | 16384 | 131072 | 262144
	b := bundle.Bundle{Primary: primary.Primary{
		Flags: r.Uint64() & allFlags, Sum: r.Intn(3), Dest: anyName(r), Report: anyName(r), Life: anyTime(r),
		Ident: ident.Ident{Source: anyName(r), Time: anyTime(r), Seq: anyTime(r)},
	}}
	numbers := r.Perm(254)
	for i, at := range r.Perm(7)[:r.Intn(8)] {
		number, sum := uint64(numbers[i]+2), r.Intn(3)
		var x canon.Block
		switch at {
		case 0:
			x, _ = canon.OfPrevious(number, sum, anyName(r))
		case 1:
			x, _ = canon.OfAge(number, sum, anyTime(r))
		case 2:
			x, _ = canon.OfHops(number, sum, 255, uint64(r.Intn(256)))
		default:
			x = canon.Block{Type: 190 + uint64(r.Intn(3)), Number: number, Sum: sum, Data: make([]byte, r.Intn(30))}
			r.Read(x.Data)
		}
		x.Flags = r.Uint64() & 23
		b.Blocks = append(b.Blocks, x)
	}
	p := canon.Block{Type: 1, Number: 1, Flags: r.Uint64() & 23, Sum: r.Intn(3), Data: make([]byte, r.Intn(120))}
	r.Read(p.Data)
	b.Blocks = append(b.Blocks, p)
	return b
}

func TestThereAndBack(t *testing.T) {
	r := rand.New(rand.NewSource(3))
	for range 3000 {
		b := anyBundle(r)
		w, e := bundle.Write(b)
		if x, f := bundle.Read(w); e != api.OK || f != api.OK || !alike(x, b) || !bundle.Same(x, b) || !bundle.Shortest(w) {
			t.Fatalf("Read(%x): %v %v, want %v, %v", w, x, f, b, e)
		}
	}
}

// Whatever is read, written again, is shortest, and read as the same bundle.
func TestReadAgain(t *testing.T) {
	r := rand.New(rand.NewSource(4))
	read, sound := 0, 0
	for range 20000 {
		b := anyBundle(r)
		w := longer(itemOf(b), func(n int) int { return r.Intn(n) * r.Intn(2) })
		for range r.Intn(3) {
			w[r.Intn(len(w))] ^= 1 << r.Intn(8)
		}
		if r.Intn(20) == 0 {
			w = w[:r.Intn(len(w))]
		}
		x, e := bundle.Read(w)
		if e != api.OK {
			if !isZero(x) || bundle.Shortest(w) {
				t.Fatalf("Read(%x): %v %v", w, x, e)
			}
			continue
		}
		read++
		own, e := bundle.Write(x)
		if e != api.OK || !bundle.Shortest(own) || !bundle.Right(x) || len(own) > api.MaxBundle {
			t.Fatalf("Write(%v): %x %v", x, own, e)
		}
		again, e := bundle.Read(own)
		if e != api.OK || !alike(again, x) {
			t.Fatalf("Read(%x): %v %v, want %v", own, again, e, x)
		}
		if bundle.Shortest(w) != bytes.Equal(w, own) {
			t.Fatalf("Shortest(%x): %v", w, bundle.Shortest(w))
		}
		if alike(x, b) {
			sound++
		}
	}
	if read < 2000 || sound == read {
		t.Errorf("%d were read, %d of them as they were", read, sound)
	}
}

func TestReadAnyBytes(t *testing.T) {
	r := rand.New(rand.NewSource(5))
	own := unhex(fullBytes)
	for range 100000 {
		w := slices.Clone(own)
		for n := 1 + r.Intn(4); n > 0 && len(w) > 0; n-- {
			at := r.Intn(len(w))
			switch r.Intn(4) {
			case 0:
				w[at] = byte(r.Intn(256))
			case 1:
				w = append(w[:at], w[at+1:]...)
			case 2:
				w = slices.Insert(w, at, byte(r.Intn(256)))
			default:
				w = slices.Concat(w[:at], own[r.Intn(len(own)):])
			}
		}
		x, e := bundle.Read(w)
		if (e == api.OK) == isZero(x) {
			t.Fatalf("Read(%x): %v %v", w, x, e)
		}
	}
}
