package primary_test

import (
	"encoding/binary"
	"encoding/hex"
	"hash/crc32"
	"math"
	"math/bits"
	"math/rand"
	"slices"
	"testing"

	"pigeonloft/api"
	"pigeonloft/cbor"
	"pigeonloft/primary"
)

// The kinds of items.
const (
	number = 0
	octets = 2
	text   = 3
	list   = 4
)

// shortOther goes from the highest bit down, with all bits turned round before and behind: another way than the program's.
func shortOther(b []byte) uint16 {
	s := uint16(0xFFFF)
	for _, x := range b {
		s ^= uint16(bits.Reverse8(x)) << 8
		for range 8 {
			if s&0x8000 != 0 {
				s = s<<1 ^ 0x1021
			} else {
				s <<= 1
			}
		}
	}
	return ^bits.Reverse16(s)
}

func longOther(b []byte) uint32 {
	return crc32.Checksum(b, crc32.MakeTable(crc32.Castagnoli))
}

// sealed is what items are sealed as, of that type, whatever they say.
func sealed(kind int, l ...cbor.Item) cbor.Item {
	if kind == 0 {
		return cbor.List(l...)
	}
	x := cbor.List(append(slices.Clone(l), cbor.Bytes(make([]byte, 2*kind)))...)
	b, e := cbor.Write(x)
	if e != api.OK {
		panic(e)
	}
	if kind == 1 {
		binary.BigEndian.PutUint16(x.L[len(l)].B, shortOther(b))
	} else {
		binary.BigEndian.PutUint32(x.L[len(l)].B, longOther(b))
	}
	return x
}

// equal compares items by all that they have, with nil lists and empty ones as one.
func equal(a, b cbor.Item) bool {
	return a.Kind == b.Kind && a.N == b.N && string(a.B) == string(b.B) && slices.EqualFunc(a.L, b.L, equal)
}

func isZero(x cbor.Item) bool { return equal(x, cbor.Item{}) }

func hexOf(t *testing.T, x cbor.Item) string {
	t.Helper()
	b, e := cbor.Write(x)
	if e != api.OK {
		t.Fatalf("no item: %v", x)
	}
	return hex.EncodeToString(b)
}

// nested is an item of that depth: lists around a number.
func nested(depth int) cbor.Item {
	x := cbor.Num(7)
	for range depth - 1 {
		x = cbor.List(x)
	}
	return x
}

// many are so many numbers, of which the first one says the type.
func many(kind, n int) []cbor.Item {
	l := make([]cbor.Item, n)
	l[0].N = uint64(kind)
	return l
}

// circle is a list that holds itself twice.
func circle() cbor.Item {
	l := make([]cbor.Item, 2)
	l[0], l[1] = cbor.Item{Kind: list, L: l}, cbor.Item{Kind: list, L: l}
	return l[0]
}

// doubled holds everything twice, so often that nobody could count it.
func doubled() cbor.Item {
	x := cbor.Item{}
	for range 100 {
		x = cbor.Item{Kind: list, L: []cbor.Item{x, x}}
	}
	return x
}

// noItems are items that may not be.
func noItems() []cbor.Item {
	return []cbor.Item{
		{Kind: 1}, {Kind: 5}, {Kind: 7}, {Kind: -1}, {B: []byte{1}}, {L: make([]cbor.Item, 1)}, {Kind: octets, N: 1}, {Kind: octets, L: make([]cbor.Item, 1)}, {Kind: text, N: 1}, {Kind: text, B: []byte{0xFF}}, {Kind: list, N: 1}, {Kind: list, B: []byte{1}},
		{Kind: list, L: []cbor.Item{{Kind: 9}}}, cbor.List(many(0, 256)...), nested(7), circle(), doubled(),
	}
}

func TestSealedBytes(t *testing.T) {
	ab := []cbor.Item{cbor.Num(5), cbor.Num(0), cbor.Text("ab"), cbor.Bytes([]byte{1})}
	for _, c := range []struct {
		kind int
		l    []cbor.Item
		at   int
		want string
	}{
		{0, []cbor.Item{{}}, 0, "8100"},
		{1, []cbor.Item{{}}, 0, "820142fcdf"},
		{2, []cbor.Item{{}}, 0, "82024492ce49d4"},
		{0, ab, 1, "8405006261624101"},
		{1, ab, 1, "8505016261624101424e87"},
		{2, ab, 1, "850502626162410144580b6d45"},
	} {
		l := slices.Clone(c.l)
		l[c.at].N = uint64(c.kind)
		x, e := primary.Seal(l, c.at)
		if e != api.OK || hexOf(t, x) != c.want {
			t.Errorf("Seal(%v, %d): %v %v", l, c.at, x, e)
		}
		if y, e := primary.Open(x, c.at); e != api.OK || !slices.EqualFunc(y, l, equal) {
			t.Errorf("Open(%v, %d): %v %v", x, c.at, y, e)
		}
	}
}

// sealables are items that may be sealed, and the place of the type.
func sealables(kind int) []struct {
	l  []cbor.Item
	at int
} {
	n, k := cbor.Num, cbor.Num(uint64(kind))
	most := api.MaxItems - 2
	if kind == 0 {
		most++
	}
	return []struct {
		l  []cbor.Item
		at int
	}{
		{[]cbor.Item{k}, 0}, {[]cbor.Item{k, k}, 0}, {[]cbor.Item{k, k}, 1}, {[]cbor.Item{n(9), n(9), k}, 2}, {[]cbor.Item{n(math.MaxUint64), k, cbor.List()}, 1},
		{[]cbor.Item{k, cbor.Bytes(nil), cbor.Bytes([]byte{0, 0}), cbor.Bytes([]byte{0, 0, 0, 0})}, 0}, {[]cbor.Item{cbor.Bytes([]byte{1, 2}), k}, 1}, {[]cbor.Item{cbor.Bytes([]byte{1, 2, 3, 4}), k}, 1},
		{[]cbor.Item{k, cbor.Text(""), cbor.Text("é"), nested(api.MaxDeep - 1)}, 0}, {[]cbor.Item{k, cbor.Bytes(make([]byte, 70000))}, 0},
		{many(kind, most), 0}, {[]cbor.Item{k, cbor.List(many(0, most-2)...)}, 0},
	}
}

func TestSealAndOpen(t *testing.T) {
	for kind := range 3 {
		for i, c := range sealables(kind) {
			want := sealed(kind, c.l...)
			x, e := primary.Seal(c.l, c.at)
			if e != api.OK || !equal(x, want) || !cbor.Right(x) {
				t.Errorf("Seal of type %d, %d: %v %v", kind, i, x, e)
			}
			if l, e := primary.Open(want, c.at); e != api.OK || !slices.EqualFunc(l, c.l, equal) {
				t.Errorf("Open of type %d, %d: %v %v", kind, i, l, e)
			}
		}
	}
}

func TestSealWrong(t *testing.T) {
	fail := func(l []cbor.Item, at int, want api.Errno) {
		t.Helper()
		if x, e := primary.Seal(l, at); e != want || !isZero(x) {
			t.Errorf("Seal(%.60v, %d): %v %v, want %v", len(l), at, x, e, want)
		}
	}
	for _, l := range [][]cbor.Item{nil, {}, {{}}, {{}, {}}, {{Kind: 9}}, many(3, 300)} {
		for _, at := range []int{-1, len(l), len(l) + 1, math.MinInt, math.MaxInt} {
			fail(l, at, api.ErrArg)
		}
	}
	fail(many(1, 8)[:3], 5, api.ErrArg) // what lies behind the length isn't there
	for _, x := range []cbor.Item{
		cbor.Num(3), cbor.Num(4), cbor.Num(256), cbor.Num(1 << 32), cbor.Num(1<<32 + 1), cbor.Num(math.MaxUint64), cbor.Bytes(nil), cbor.Bytes([]byte{1}), cbor.Text(""), cbor.Text("1"), cbor.List(), cbor.List(cbor.Num(1)),
		{N: 1, B: []byte{1}}, {N: 1, L: make([]cbor.Item, 1)}, {Kind: 9, N: 1}, {Kind: octets, N: 1}, {Kind: -1},
	} {
		fail([]cbor.Item{x}, 0, api.ErrForm)
		fail([]cbor.Item{cbor.Num(1), x, cbor.Num(1)}, 1, api.ErrForm)
	}
	for kind := range 3 {
		k := cbor.Num(uint64(kind))
		for _, x := range append(noItems(), nested(api.MaxDeep)) {
			fail([]cbor.Item{k, x}, 0, api.ErrForm)
			fail([]cbor.Item{x, k, k}, 1, api.ErrForm)
		}
		most := api.MaxItems - 1
		if kind > 0 {
			most--
		}
		fail(many(kind, most+1), 0, api.ErrForm)
		fail(many(kind, 100000), 0, api.ErrForm)
		fail([]cbor.Item{k, cbor.List(many(0, most-1)...)}, 0, api.ErrForm)
	}
}

func TestOpenWrong(t *testing.T) {
	fail := func(what string, x cbor.Item, at int, want api.Errno) {
		t.Helper()
		if l, e := primary.Open(x, at); e != want || len(l) != 0 {
			t.Errorf("Open of %s, at %d: %v %v, want %v", what, at, l, e, want)
		}
	}
	for _, x := range append(noItems(), cbor.Num(0), cbor.Num(1), cbor.Bytes(nil), cbor.Bytes([]byte{0}), cbor.Text("0"), cbor.List()) {
		fail("no list", x, 0, api.ErrForm)
		fail("no list", x, -1, api.ErrForm)
	}
	for kind := range 3 {
		k := cbor.Num(uint64(kind))
		x := sealed(kind, k, cbor.Num(9), cbor.Text("a"))
		for _, at := range []int{-1, len(x.L), len(x.L) + 1, math.MinInt, math.MaxInt} {
			fail("a place outside", x, at, api.ErrForm)
		}
		fail("no type", x, 1, api.ErrForm)
		fail("no type", x, 2, api.ErrForm)
		for _, y := range noItems() {
			fail("what may not be", cbor.Item{Kind: list, L: []cbor.Item{k, y, cbor.Bytes(make([]byte, 2*kind))}}, 0, api.ErrForm)
		}
		x.L[0].B = []byte{1}
		fail("what may not be", x, 0, api.ErrForm)
	}
	short, long := []byte{0xFC, 0xDF}, []byte{0x92, 0xCE, 0x49, 0xD4}
	one, two := cbor.Num(1), cbor.Num(2)
	for _, l := range [][]cbor.Item{
		{one}, {two}, {one, one}, {two, two}, {one, cbor.Text(string([]byte{1, 2}))}, {two, cbor.Text("abcd")}, {one, cbor.List(one, one)}, {two, cbor.List()}, {one, cbor.Num(0xFCDF)}, {two, cbor.Num(0x92CE49D4)},
		{one, cbor.Bytes(nil)}, {one, cbor.Bytes(short[:1])}, {one, cbor.Bytes(append(short, 0))}, {one, cbor.Bytes(long)}, {two, cbor.Bytes(nil)}, {two, cbor.Bytes(short)}, {two, cbor.Bytes(long[:3])}, {two, cbor.Bytes(append(long, 0))},
		{one, cbor.Bytes(short), cbor.Num(0)}, {two, cbor.Bytes(long), cbor.List()}, {one, cbor.List(cbor.Bytes(short))},
	} {
		fail("no sum at the end", cbor.List(l...), 0, api.ErrForm)
	}
	fail("a sum ahead of the type", cbor.List(cbor.Bytes(short), one), 1, api.ErrForm)
	fail("a sum ahead of the type", cbor.List(cbor.Bytes(long), two), 1, api.ErrForm)
	fail("another sum", cbor.List(one, cbor.Bytes([]byte{0, 0})), 0, api.ErrSum)
	fail("the sum turned round", cbor.List(one, cbor.Bytes([]byte{0xDF, 0xFC})), 0, api.ErrSum)
	fail("another sum", cbor.List(two, cbor.Bytes([]byte{0, 0, 0, 0})), 0, api.ErrSum)
	fail("the sum turned round", cbor.List(two, cbor.Bytes([]byte{0xD4, 0x49, 0xCE, 0x92})), 0, api.ErrSum)
	for bit := range 32 {
		for kind, b := range [][]byte{1: slices.Clone(short), 2: slices.Clone(long)} {
			if bit < 8*len(b) {
				b[bit/8] ^= 1 << (bit % 8)
				fail("a sum with a bit turned", cbor.List(cbor.Num(uint64(kind)), cbor.Bytes(b)), 0, api.ErrSum)
			}
		}
	}
}

// The sum is one of the whole list: an item that is another one, wherever it stands, is told.
func TestOpenAnotherItem(t *testing.T) {
	for kind := 1; kind <= 2; kind++ {
		l := []cbor.Item{cbor.Num(9), cbor.Num(uint64(kind)), cbor.Text("ab"), cbor.Bytes([]byte{1}), cbor.List(cbor.Num(3), cbor.Num(4))}
		for _, change := range []func(l []cbor.Item){
			func(l []cbor.Item) { l[0].N = 8 }, func(l []cbor.Item) { l[0].N = 900 }, func(l []cbor.Item) { l[0] = cbor.Bytes([]byte{9}) }, func(l []cbor.Item) { l[0] = cbor.List() },
			func(l []cbor.Item) { l[2].B[1] = 'c' }, func(l []cbor.Item) { l[2].Kind = octets }, func(l []cbor.Item) { l[3].B[0] = 0 }, func(l []cbor.Item) { l[3].B = nil },
			func(l []cbor.Item) { l[4].L[1].N = 3 }, func(l []cbor.Item) { l[4].L = l[4].L[:1] }, func(l []cbor.Item) { l[4] = cbor.Num(0) }, func(l []cbor.Item) { l[3], l[2] = l[2], l[3] },
		} {
			x := sealed(kind, l...)
			change(x.L)
			if y, e := primary.Open(x, 1); e != api.ErrSum || len(y) != 0 {
				t.Errorf("Open(%v, 1): %v %v", x, y, e)
			}
		}
	}
}

func TestSealKeepsNothing(t *testing.T) {
	for kind := range 3 {
		room := []cbor.Item{cbor.Num(uint64(kind)), cbor.Bytes([]byte("abc")), cbor.List(cbor.Text("x"), cbor.Num(5)), cbor.Num(77), cbor.Num(78)}
		l := room[:3]
		want := sealed(kind, l...)
		before := cbor.List(room...)
		x, e := primary.Seal(l, 0)
		if e != api.OK || !equal(x, want) || !equal(cbor.List(room...), before) {
			t.Fatalf("Seal: %v %v, and what was handed in is %v", x, e, room)
		}
		l[1].B[0], l[2].L[0].B[0], l[2].L[1].N = '?', '?', 6
		if !equal(x, want) {
			t.Errorf("what came hangs on what was handed in: %v", x)
		}
		in := cbor.List(x.L...)
		y, e := primary.Open(in, 0)
		if e != api.OK || !equal(in, want) {
			t.Fatalf("Open: %v, and what was handed in is %v", e, in)
		}
		in.L[1].B[0], in.L[2].L[0].B[0], in.L[2].L[1].N, in.L[0].N = '?', '?', 6, 9
		if !equal(sealed(kind, y...), want) {
			t.Errorf("what came hangs on what was handed in: %v", y)
		}
		_ = append(y, cbor.Num(1))
		if len(y) != 3 || cap(y) != 3 {
			t.Errorf("there are %d items, and room for %d", len(y), cap(y))
		}
	}
}

func anyItem(r *rand.Rand, deep int) cbor.Item {
	b := make([]byte, r.Intn(6))
	r.Read(b)
	switch r.Intn(5) {
	case 0:
		return cbor.Bytes(b)
	case 1:
		return cbor.Text(hex.EncodeToString(b))
	case 2:
		if deep > 1 {
			l := make([]cbor.Item, r.Intn(4))
			for i := range l {
				l[i] = anyItem(r, deep-1)
			}
			return cbor.List(l...)
		}
	}
	return cbor.Num(r.Uint64() >> r.Intn(64))
}

func TestSealThereAndBack(t *testing.T) {
	r := rand.New(rand.NewSource(1))
	for range 3000 {
		l := make([]cbor.Item, 1+r.Intn(8))
		for i := range l {
			l[i] = anyItem(r, 4)
		}
		at, kind := r.Intn(len(l)), r.Intn(3)
		l[at] = cbor.Num(uint64(kind))
		x, e := primary.Seal(l, at)
		if e != api.OK || !equal(x, sealed(kind, l...)) {
			t.Fatalf("Seal(%v, %d): %v %v", l, at, x, e)
		}
		if y, e := primary.Open(x, at); e != api.OK || !slices.EqualFunc(y, l, equal) {
			t.Fatalf("Open(%v, %d): %v %v", x, at, y, e)
		}
	}
}

// What is opened is sealed as it was: there is one way alone.
func TestSealOneWayAlone(t *testing.T) {
	r := rand.New(rand.NewSource(2))
	opened := 0
	for range 100000 {
		kind := r.Intn(3)
		x := sealed(kind, anyItem(r, 3), cbor.Num(uint64(kind)), anyItem(r, 3))
		b, _ := cbor.Write(x)
		b[r.Intn(len(b))] ^= 1 << r.Intn(8)
		x, _, e := cbor.Read(b, 0)
		if e != api.OK {
			continue
		}
		l, e := primary.Open(x, 1)
		if e != api.OK {
			if e != api.ErrForm && e != api.ErrSum || len(l) != 0 {
				t.Fatalf("Open(%v): %v %v", x, l, e)
			}
			continue
		}
		opened++
		if again, e := primary.Seal(l, 1); e != api.OK || !equal(again, x) {
			t.Fatalf("Open(%v): %v, which is sealed as %v %v", x, l, again, e)
		}
	}
	if opened < 1000 {
		t.Errorf("only %d were opened", opened)
	}
}
