package cbor_test

import (
	"bytes"
	"math"
	"slices"
	"testing"

	"pigeonloft/api"
	"pigeonloft/cbor"
)

// The kinds of items.
const (
	number = 0
	octets = 2
	text   = 3
	list   = 4
)

// nested is an item of that depth: lists around a number.
func nested(depth int) cbor.Item {
	x := cbor.Item{Kind: number, N: 7}
	for range depth - 1 {
		x = cbor.Item{Kind: list, L: []cbor.Item{x}}
	}
	return x
}

// wide is a list of so many numbers.
func wide(n int) cbor.Item {
	return cbor.Item{Kind: list, L: make([]cbor.Item, n)}
}

// circle is a list that holds itself so many times.
func circle(n int) cbor.Item {
	l := make([]cbor.Item, n)
	for i := range l {
		l[i] = cbor.Item{Kind: list, L: l}
	}
	return l[0]
}

// doubled holds everything twice, so often that nobody could count it.
func doubled() cbor.Item {
	x := cbor.Item{Kind: number}
	for range 100 {
		x = cbor.Item{Kind: list, L: []cbor.Item{x, x}}
	}
	return x
}

// equal compares items by all that they have, with nil lists and empty ones as one.
func equal(a, b cbor.Item) bool {
	return a.Kind == b.Kind && a.N == b.N && string(a.B) == string(b.B) && slices.EqualFunc(a.L, b.L, equal)
}

func isZero(x cbor.Item) bool { return equal(x, cbor.Item{}) }

func TestMakers(t *testing.T) {
	for _, c := range []struct{ got, want cbor.Item }{
		{cbor.Num(0), cbor.Item{}},
		{cbor.Num(500), cbor.Item{Kind: number, N: 500}},
		{cbor.Num(math.MaxUint64), cbor.Item{Kind: number, N: math.MaxUint64}},
		{cbor.Bytes(nil), cbor.Item{Kind: octets}},
		{cbor.Bytes([]byte{}), cbor.Item{Kind: octets}},
		{cbor.Bytes([]byte{0, 0xFF}), cbor.Item{Kind: octets, B: []byte{0, 0xFF}}},
		{cbor.Text(""), cbor.Item{Kind: text}},
		{cbor.Text("ab"), cbor.Item{Kind: text, B: []byte("ab")}},
		{cbor.Text("\xFFno text"), cbor.Item{Kind: text, B: []byte("\xFFno text")}},
		{cbor.List(), cbor.Item{Kind: list}},
		{cbor.List(nil...), cbor.Item{Kind: list}},
		{cbor.List(cbor.Num(1), cbor.Text("ab")), cbor.Item{Kind: list, L: []cbor.Item{{N: 1}, {Kind: text, B: []byte("ab")}}}},
		{cbor.List(nested(3), cbor.List()), cbor.Item{Kind: list, L: []cbor.Item{nested(3), {Kind: list}}}},
		{cbor.List(wide(1000), cbor.Item{Kind: 9, N: 1, B: []byte{2}, L: []cbor.Item{{N: 3}}}), cbor.Item{Kind: list, L: []cbor.Item{wide(1000), {Kind: 9, N: 1, B: []byte{2}, L: []cbor.Item{{N: 3}}}}}},
	} {
		if !equal(c.got, c.want) {
			t.Errorf("made %v, want %v", c.got, c.want)
		}
	}
}

func TestMakersShareNothing(t *testing.T) {
	b := []byte{1, 2, 3, 4}
	x := cbor.Bytes(b[:2])
	if cap(x.B) > 2 {
		x.B = append(x.B, 9)
	}
	b[0] = 9
	x.B[1] = 8
	if x.B[0] != 1 || b[1] != 2 || b[2] != 3 {
		t.Errorf("Bytes shares: %v %v", x.B, b)
	}
	inner := []cbor.Item{{Kind: octets, B: []byte{1}}, {Kind: number, N: 5}}
	twice := cbor.Item{Kind: list, L: inner}
	args := []cbor.Item{twice, twice, {Kind: octets, B: b}}
	y := cbor.List(args...)
	y.L[0].L[0].B[0] = 7
	y.L[0].L[1].N = 6
	y.L[2].B[0] = 1
	want := cbor.Item{Kind: list, L: []cbor.Item{{Kind: octets, B: []byte{1}}, {Kind: number, N: 5}}}
	if !equal(twice, want) || !equal(y.L[1], want) || !equal(args[0], want) || b[0] != 9 {
		t.Errorf("List shares: %v, %v, %v", twice, y.L[1], b)
	}
	inner[0].B[0], inner[1].N, args[1] = 3, 3, cbor.Item{}
	if !equal(y.L[1], want) {
		t.Errorf("List shares with what it was given: %v", y.L[1])
	}
}

func TestMakersHandOutNothingBehind(t *testing.T) {
	x := cbor.List(cbor.Bytes(make([]byte, 5)), cbor.Text("hello"), cbor.Num(1))
	if cap(x.L) != 3 || cap(x.L[0].B) != 5 || cap(x.L[1].B) != 5 {
		t.Errorf("room behind: %d, %d, %d", cap(x.L), cap(x.L[0].B), cap(x.L[1].B))
	}
	y := cbor.List(wide(5).L[:3]...)
	if len(y.L) != 3 || cap(y.L) != 3 {
		t.Errorf("room behind a part of a list: %d, %d", len(y.L), cap(y.L))
	}
}

func TestListOfAny(t *testing.T) {
	deep := nested(1 << 16)
	if x := cbor.List(deep); len(x.L) != 1 || !cbor.Same(x.L[0], deep) {
		t.Errorf("a deep item is not in its list")
	}
	if x := cbor.List(wide(1 << 20)); len(x.L) != 1 || len(x.L[0].L) != 1<<20 {
		t.Errorf("a wide item is not in its list")
	}
	for n := 1; n <= 3; n++ {
		if x := cbor.List(circle(n)); cbor.Right(x) {
			t.Errorf("a list of what holds itself %d times may be", n)
		}
	}
}

// rights are items that may be, with their shortest bytes.
func rights() []struct {
	x cbor.Item
	b string
} {
	many := func(head, each string, n int) string { return head + string(bytes.Repeat([]byte(each), n)) }
	return []struct {
		x cbor.Item
		b string
	}{
		{cbor.Item{}, "\x00"},
		{cbor.Item{N: 23, B: []byte{}, L: []cbor.Item{}}, "\x17"},
		{cbor.Item{N: 24}, "\x18\x18"},
		{cbor.Item{N: 255}, "\x18\xFF"},
		{cbor.Item{N: 256}, "\x19\x01\x00"},
		{cbor.Item{N: 500}, "\x19\x01\xF4"},
		{cbor.Item{N: 1 << 16}, "\x1A\x00\x01\x00\x00"},
		{cbor.Item{N: 1 << 32}, "\x1B\x00\x00\x00\x01\x00\x00\x00\x00"},
		{cbor.Item{N: math.MaxUint64}, "\x1B\xFF\xFF\xFF\xFF\xFF\xFF\xFF\xFF"},
		{cbor.Item{Kind: octets}, "\x40"},
		{cbor.Item{Kind: octets, B: []byte{}, L: []cbor.Item{}}, "\x40"},
		{cbor.Item{Kind: octets, B: []byte{0xFF, 0}}, "\x42\xFF\x00"},
		{cbor.Item{Kind: octets, B: make([]byte, 23)}, many("\x57", "\x00", 23)},
		{cbor.Item{Kind: octets, B: make([]byte, 24)}, many("\x58\x18", "\x00", 24)},
		{cbor.Item{Kind: octets, B: make([]byte, 256)}, many("\x59\x01\x00", "\x00", 256)},
		{cbor.Item{Kind: octets, B: make([]byte, 1<<16)}, many("\x5A\x00\x01\x00\x00", "\x00", 1<<16)},
		{cbor.Item{Kind: text}, "\x60"},
		{cbor.Item{Kind: text, B: []byte("ab")}, "\x62ab"},
		{cbor.Item{Kind: text, B: []byte("Zürich\u20ac\U0001F54A")}, "\x6EZ\xC3\xBCrich\xE2\x82\xAC\xF0\x9F\x95\x8A"},
		{cbor.Item{Kind: list}, "\x80"},
		{cbor.Item{Kind: list, L: []cbor.Item{}}, "\x80"},
		{cbor.Item{Kind: list, L: []cbor.Item{{N: 1}, {Kind: text, B: []byte("ab")}}}, "\x82\x01\x62ab"},
		{wide(23), many("\x97", "\x00", 23)},
		{wide(24), many("\x98\x18", "\x00", 24)},
		{wide(api.MaxItems - 1), many("\x98\xFF", "\x00", 255)},
		{cbor.Item{Kind: list, L: []cbor.Item{wide(100), wide(api.MaxItems - 103)}}, many(many("\x82\x98\x64", "\x00", 100)+"\x98\x99", "\x00", 153)},
		{nested(2), "\x81\x07"},
		{nested(api.MaxDeep), "\x81\x81\x81\x81\x81\x07"},
		{cbor.Item{Kind: list, L: []cbor.Item{nested(api.MaxDeep - 1), nested(api.MaxDeep - 1), {N: 1}}}, "\x83\x81\x81\x81\x81\x07\x81\x81\x81\x81\x07\x01"},
	}
}

// wrongs are items that may not be.
func wrongs() []cbor.Item {
	l := []cbor.Item{
		wide(api.MaxItems), wide(api.MaxItems + 1), wide(1 << 20),
		{Kind: list, L: []cbor.Item{wide(100), wide(api.MaxItems - 102)}},
		{Kind: list, L: []cbor.Item{wide(api.MaxItems - 102), wide(100)}},
		nested(api.MaxDeep + 1), nested(1000), nested(1 << 16),
		{Kind: list, L: []cbor.Item{{N: 1}, nested(api.MaxDeep)}},
		circle(1), circle(2), circle(300), doubled(),
		{Kind: number, B: []byte{0}}, {Kind: number, L: []cbor.Item{{}}},
		{Kind: octets, N: 1}, {Kind: octets, N: 1, B: []byte{1}}, {Kind: octets, L: []cbor.Item{{}}},
		{Kind: text, N: 1}, {Kind: text, L: []cbor.Item{{}}}, {Kind: text, N: 2, B: []byte("ab")},
		{Kind: text, B: []byte{0xFF}}, {Kind: text, B: []byte("ab\xC3")}, {Kind: text, B: []byte("\xED\xA0\x80")}, {Kind: text, B: []byte("\xC0\x80")},
		{Kind: list, N: 1}, {Kind: list, N: 1, L: []cbor.Item{{}}}, {Kind: list, B: []byte{1}},
	}
	for _, kind := range []int{math.MinInt, -1, 1, 5, 6, 7, 8, 256, math.MaxInt} {
		l = append(l, cbor.Item{Kind: kind}, cbor.Item{Kind: kind, L: []cbor.Item{{}}})
	}
	for _, x := range slices.Clone(l) { // what is wrong within a list is wrong
		l = append(l, cbor.Item{Kind: list, L: []cbor.Item{{N: 1}, x, {N: 2}}})
	}
	return l
}

func TestRightAndWrite(t *testing.T) {
	for _, c := range rights() {
		if !cbor.Right(c.x) {
			t.Errorf("Right(%.60x): false", c.b)
		}
		b, e := cbor.Write(c.x)
		if e != api.OK || string(b) != c.b {
			t.Errorf("Write: %.60x %v, want %.60x", b, e, c.b)
		}
		if cap(b) != len(b) {
			t.Errorf("Write hands out what lies behind: %d of %d", len(b), cap(b))
		}
	}
	for i, x := range wrongs() {
		if cbor.Right(x) {
			t.Errorf("Right of wrong item %d", i)
		}
		if b, e := cbor.Write(x); e != api.ErrForm || len(b) != 0 {
			t.Errorf("Write of wrong item %d: %x %v", i, b, e)
		}
	}
}

func TestWriteKeepsItsItem(t *testing.T) {
	x := cbor.Item{Kind: list, L: []cbor.Item{{Kind: octets, B: []byte{1, 2}}}}
	b, _ := cbor.Write(x)
	b[2] = 9
	if x.L[0].B[0] != 1 {
		t.Errorf("Write shares with its item")
	}
}

func TestSame(t *testing.T) {
	items := []cbor.Item{
		{}, {N: 1}, {N: 1 << 63}, {B: []byte{1}}, {L: []cbor.Item{{}}},
		{Kind: octets}, {Kind: octets, B: []byte{0}}, {Kind: octets, B: []byte{1}}, {Kind: octets, B: []byte{1, 0}}, {Kind: octets, N: 1},
		{Kind: text}, {Kind: text, B: []byte{1}}, {Kind: text, B: []byte{0xFF}},
		{Kind: list}, {Kind: list, L: []cbor.Item{{}}}, {Kind: list, L: []cbor.Item{{}, {}}}, {Kind: list, L: []cbor.Item{{N: 1}, {N: 2}}}, {Kind: list, L: []cbor.Item{{N: 2}, {N: 1}}},
		{Kind: list, L: []cbor.Item{{Kind: list}}}, {Kind: list, L: []cbor.Item{{Kind: list, L: []cbor.Item{{}}}}}, {Kind: list, L: []cbor.Item{{Kind: octets}}},
		{Kind: -1}, {Kind: 1}, {Kind: 7}, nested(5), nested(6), nested(7), nested(1 << 16), wide(300), wide(301),
	}
	for i, a := range items {
		for j, b := range items {
			if got := cbor.Same(a, b); got != (i == j) {
				t.Errorf("Same of %d and %d: %v", i, j, got)
			}
		}
	}
}

func TestSameOfEmptyLists(t *testing.T) {
	for kind := range 5 {
		a, b := cbor.Item{Kind: kind}, cbor.Item{Kind: kind, B: []byte{}, L: []cbor.Item{}}
		if !cbor.Same(a, b) || !cbor.Same(b, a) {
			t.Errorf("Kind %d: nil and empty lists differ", kind)
		}
	}
}

func TestSameReadsNothingBehind(t *testing.T) {
	a := cbor.Item{Kind: list, L: []cbor.Item{{N: 1}, {N: 2}}}
	b := cbor.Item{Kind: list, L: []cbor.Item{{N: 1}, {N: 3}}}
	a.L, b.L = a.L[:1], b.L[:1]
	if !cbor.Same(a, b) {
		t.Errorf("what lies behind the length is looked at")
	}
}

func TestSameEnds(t *testing.T) {
	cbor.Same(circle(1), circle(1))
	cbor.Same(circle(2), circle(2))
	if cbor.Same(circle(1), circle(2)) || cbor.Same(circle(1), nested(50)) || cbor.Same(nested(50), circle(1)) {
		t.Errorf("what holds itself is the same as what does not")
	}
}
