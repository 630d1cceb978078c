package cbor_test

import (
	"bytes"
	"math"
	"math/rand"
	"strings"
	"testing"

	"pigeonloft/api"
	"pigeonloft/cbor"
)

func TestReadShortest(t *testing.T) {
	for _, c := range rights() {
		b := []byte(c.b)
		x, next, e := cbor.Read(b, 0)
		if e != api.OK || next != len(b) || !equal(x, c.x) {
			t.Errorf("Read(%.60x): %d %v", b, next, e)
		}
		if !cbor.Shortest(b) {
			t.Errorf("Shortest(%.60x): false", b)
		}
		if cbor.Shortest(append(b, 0)) {
			t.Errorf("Shortest(%.60x and one more): true", b)
		}
	}
}

func num(n uint64) cbor.Item { return cbor.Item{N: n} }

func octetsOf(s string) cbor.Item { return cbor.Item{Kind: octets, B: []byte(s)} }

func textOf(s string) cbor.Item { return cbor.Item{Kind: text, B: []byte(s)} }

func listOf(l ...cbor.Item) cbor.Item { return cbor.Item{Kind: list, L: l} }

func TestReadLonger(t *testing.T) {
	for _, c := range []struct {
		b    string
		want cbor.Item
	}{
		{"\x18\x05", num(5)},
		{"\x1B\x00\x00\x00\x00\x00\x00\x00\x05", num(5)},
		{"\x1A\x00\x00\xFF\xFF", num(65535)},
		{"\x58\x01\xAA", octetsOf("\xAA")},
		{"\x78\x02ab", textOf("ab")},
		{"\x98\x01\x05", listOf(num(5))},
		{"\x9F\xFF", listOf()},
		{"\x9F\x01\x02\xFF", listOf(num(1), num(2))},
		{"\x9F\x9F\xFF\x9F\x80\xFF\xFF", listOf(listOf(), listOf(listOf()))},
		{"\x5F\xFF", octetsOf("")},
		{"\x5F\x40\x40\xFF", octetsOf("")},
		{"\x5F\x41a\x58\x02bc\x40\xFF", octetsOf("abc")},
		{"\x5F\x41\xFF\xFF", octetsOf("\xFF")},
		{"\x7F\xFF", textOf("")},
		{"\x7F\x60\xFF", textOf("")},
		{"\x7F\x61a\x79\x00\x03\xE2\x82\xAC\xFF", textOf("a€")},
		{"\x82\x5F\x41a\xFF\x7F\x61b\xFF", listOf(octetsOf("a"), textOf("b"))},
		{"\x9F\x18\x01\x7F\x61a\x61b\xFF\xFF", listOf(num(1), textOf("ab"))},
		{"\x9F\x9F\x9F\x9F\x9F\x5F\x41a\x41b\xFF\xFF\xFF\xFF\xFF\xFF", listOf(listOf(listOf(listOf(listOf(octetsOf("ab"))))))},
		{"\x9F\x9F\x9F\x9F\x9F\x9F\xFF\xFF\xFF\xFF\xFF\xFF", listOf(listOf(listOf(listOf(listOf(listOf())))))},
	} {
		b := []byte(c.b)
		x, next, e := cbor.Read(b, 0)
		if e != api.OK || next != len(b) || !equal(x, c.want) {
			t.Errorf("Read(%x): %v %d %v, want %v", b, x, next, e, c.want)
		}
		if cbor.Shortest(b) {
			t.Errorf("Shortest(%x): true", b)
		}
	}
}

func TestReadAt(t *testing.T) {
	b := []byte("\xFF\x82\x01\x62ab\x1C")
	for _, c := range []struct {
		at   int
		want cbor.Item
		next int
		e    api.Errno
	}{
		{math.MinInt, cbor.Item{}, 0, api.ErrArg},
		{-1, cbor.Item{}, 0, api.ErrArg},
		{0, cbor.Item{}, 0, api.ErrForm},
		{1, listOf(num(1), textOf("ab")), 6, api.OK},
		{2, num(1), 3, api.OK},
		{3, textOf("ab"), 6, api.OK},
		{4, textOf("b"), 6, api.OK}, // the character a is the head of a text of one byte
		{6, cbor.Item{}, 0, api.ErrForm},
		{7, cbor.Item{}, 0, api.ErrShort},
		{8, cbor.Item{}, 0, api.ErrArg},
		{math.MaxInt, cbor.Item{}, 0, api.ErrArg},
	} {
		x, next, e := cbor.Read(b, c.at)
		if e != c.e || next != c.next || !equal(x, c.want) {
			t.Errorf("Read at %d: %v %d %v", c.at, x, next, e)
		}
	}
	if _, _, e := cbor.Read(nil, 0); e != api.ErrShort {
		t.Errorf("Read of nothing: %v", e)
	}
	if _, _, e := cbor.Read(nil, 1); e != api.ErrArg {
		t.Errorf("Read behind nothing: %v", e)
	}
	if cbor.Shortest(nil) {
		t.Errorf("Shortest of nothing")
	}
}

// zeros are so many numbers' bytes.
func zeros(n int) string { return strings.Repeat("\x00", n) }

func TestReadFaults(t *testing.T) {
	five := "\x81\x81\x81\x81\x81" // around a sixth
	for _, c := range []struct {
		b string
		e api.Errno
	}{
		// heads
		{"\x18", api.ErrShort}, {"\x1B\x00\x00\x00\x00\x00\x00\x00", api.ErrShort}, {"\x1C", api.ErrForm}, {"\x1D", api.ErrForm}, {"\x1E", api.ErrForm}, {"\x1F", api.ErrForm},
		{"\x5C", api.ErrForm}, {"\x9E", api.ErrForm}, {"\x82\x01\x18", api.ErrShort}, {"\x82\x1C\x18", api.ErrForm},
		// Majors that no item has
		{"\x20", api.ErrForm}, {"\x38", api.ErrShort}, {"\x38\x01", api.ErrForm}, {"\xA0", api.ErrForm}, {"\xBF", api.ErrForm}, {"\xBF\xFF", api.ErrForm},
		{"\xC1\x01", api.ErrForm}, {"\xE0", api.ErrForm}, {"\xF4", api.ErrForm}, {"\xF6", api.ErrForm}, {"\xF8\x20", api.ErrForm}, {"\xFB\x00", api.ErrShort},
		{"\x81\x20", api.ErrForm}, {"\x81\xF6", api.ErrForm}, {"\x9F\xA0\xFF", api.ErrForm},
		// an end of nothing that is open
		{"\xFF", api.ErrForm}, {"\x81\xFF", api.ErrForm}, {"\x82\x01\xFF", api.ErrForm}, {"\x9F\x81\xFF\xFF", api.ErrForm},
		// bytes missing
		{"\x41", api.ErrShort}, {"\x42\x01", api.ErrShort}, {"\x61", api.ErrShort}, {"\x62\xFF", api.ErrShort}, {"\x81", api.ErrShort}, {"\x82\x01", api.ErrShort}, {"\x82\x81\x01", api.ErrShort},
		{"\x9F", api.ErrShort}, {"\x9F\x01", api.ErrShort}, {"\x9F\x9F\xFF", api.ErrShort}, {"\x5F", api.ErrShort}, {"\x5F\x41", api.ErrShort}, {"\x5F\x41a", api.ErrShort}, {"\x7F", api.ErrShort}, {"\x7F\x61a", api.ErrShort},
		{"\x5B\xFF\xFF\xFF\xFF\xFF\xFF\xFF\xFFab", api.ErrShort}, {"\x7B\x80\x00\x00\x00\x00\x00\x00\x00ab", api.ErrShort}, {"\x5B\x7F\xFF\xFF\xFF\xFF\xFF\xFF\xFFab", api.ErrShort},
		{"\x9B\xFF\xFF\xFF\xFF\xFF\xFF\xFF\xFF\x01", api.ErrShort}, {"\x9B\x80\x00\x00\x00\x00\x00\x00\x00\x01", api.ErrShort}, {"\x5F\x5B\xFF\xFF\xFF\xFF\xFF\xFF\xFF\xFFab", api.ErrShort},
		// fewer bytes than items, ahead of what is wrong within
		{"\x83\x20\x20", api.ErrShort}, {"\x82\x20\x20", api.ErrForm}, {"\x9F\x83\xFF\xFF", api.ErrShort}, {"\x98\x03\x1C\x1C", api.ErrShort}, {"\x82\x82\x01\x20", api.ErrForm}, {"\x82\x83\x01\x20", api.ErrShort},
		// depth
		{five + "\x81\x07", api.ErrDeep}, {five + "\x9F\x07\xFF", api.ErrDeep}, {five + "\x80", api.OK}, {five + "\x9F\xFF", api.OK}, {five + "\x41a", api.OK}, {five + "\x5F\x41a\x41b\xFF", api.OK}, {five + "\x7F\x61a\xFF", api.OK},
		{five + "\x81\x42", api.ErrDeep}, {five + "\x81\x20", api.ErrForm}, {five + "\x81\x1C", api.ErrForm}, {five + "\x81\x18", api.ErrShort}, {five + "\x81", api.ErrShort}, {five + "\x81\xFF", api.ErrForm}, {five + "\x9F", api.ErrShort}, {five + "\x9F\x1F", api.ErrForm},
		{five + "\x81\x83\x00", api.ErrDeep}, {five + "\x81\x61\xFF", api.ErrDeep}, {five + "\x81\x9F", api.ErrDeep}, {"\x82" + five + "\x07", api.ErrDeep}, {"\x82" + five + "\x07\x01", api.ErrDeep}, {"\x82\x20" + five + "\x07", api.ErrForm},
		// size
		{"\x98\xFF" + zeros(255), api.OK}, {"\x99\x01\x00" + zeros(256), api.ErrLong}, {"\x99\x01\x00" + zeros(255), api.ErrShort}, {"\x9F" + zeros(255) + "\xFF", api.OK}, {"\x9F" + zeros(256) + "\xFF", api.ErrLong},
		{"\x9F" + zeros(255), api.ErrShort}, {"\x9F" + zeros(256), api.ErrLong}, {"\x9F" + zeros(255) + "\x20", api.ErrForm}, {"\x9F" + zeros(255) + "\x1C", api.ErrForm}, {"\x9F" + zeros(255) + "\x18", api.ErrShort}, {"\x9F" + zeros(255) + "\x42", api.ErrLong}, {"\x9F" + zeros(255) + "\x61\xFF", api.ErrLong}, {"\x9F" + zeros(255) + "\x85", api.ErrLong},
		{"\x9F" + zeros(254) + "\x81\x00", api.ErrLong}, {"\x9F" + zeros(254) + "\x81", api.ErrShort}, {"\x9F" + zeros(254) + "\x81\xFF", api.ErrForm}, {"\x9F" + zeros(254) + "\x5F\x41a\x41b\xFF\xFF", api.OK}, {"\x9F" + zeros(254) + "\x80\xFF", api.OK}, {"\x9F" + zeros(254) + "\x9F\xFF\xFF", api.OK},
		{"\x99\x01\x00" + zeros(254) + "\x20\x00", api.ErrForm}, {"\x99\x01\x00" + zeros(255) + "\x20", api.ErrForm}, {"\x5F" + strings.Repeat("\x41a", 300) + "\xFF", api.OK}, {"\x7F" + strings.Repeat("\x60", 300) + "\xFF", api.OK},
		{"\x9F" + zeros(250) + five + "\x00\xFF", api.ErrDeep}, {"\x9F" + zeros(251) + five + "\x00\xFF", api.ErrLong}, {"\x9F" + zeros(251) + five + "\x20", api.ErrLong}, {"\x9F" + zeros(250) + five + "\x20", api.ErrForm},
		// within what is open
		{"\x5F\x00\xFF", api.ErrForm}, {"\x5F\x61a\xFF", api.ErrForm}, {"\x5F\x80\xFF", api.ErrForm}, {"\x5F\x5F\xFF\xFF", api.ErrForm}, {"\x5F\x7F\xFF\xFF", api.ErrForm}, {"\x5F\x9F\xFF\xFF", api.ErrForm}, {"\x5F\x20\xFF", api.ErrForm}, {"\x5F\xF6\xFF", api.ErrForm},
		{"\x7F\x41a\xFF", api.ErrForm}, {"\x7F\x7F\xFF\xFF", api.ErrForm}, {"\x7F\x5F\xFF\xFF", api.ErrForm}, {"\x7F\x00\xFF", api.ErrForm}, {"\x7F\x80\xFF", api.ErrForm}, {"\x7F\xBF\xFF", api.ErrForm},
		{"\x5F\x65a", api.ErrForm}, {"\x7F\x45a", api.ErrForm}, {"\x5F\x5F", api.ErrForm}, {"\x7F\x7F", api.ErrForm}, {"\x5F\x18", api.ErrShort}, {"\x5F\x78", api.ErrShort}, {"\x5F\x1C", api.ErrForm}, {"\x5F\x41a\x00", api.ErrForm}, {"\x5F\x42a\xFF", api.ErrShort}, {"\x5F\x81\xFF", api.ErrForm},
		{five + "\x5F\x81\x00\xFF", api.ErrForm}, {"\x9F" + zeros(254) + "\x5F\x00\xFF\xFF", api.ErrForm},
		// texts
		{"\x61\xFF", api.ErrForm}, {"\x62\xC3\xBC", api.OK}, {"\x61\xC3", api.ErrForm}, {"\x62\xC0\x80", api.ErrForm}, {"\x63\xED\xA0\x80", api.ErrForm}, {"\x64\xF5\x80\x80\x80", api.ErrForm}, {"\x41\xFF", api.OK},
		{"\x7F\x61\xC3\x61\xBC\xFF", api.ErrForm}, {"\x7F\x61\xFF", api.ErrForm}, {"\x7F\x61\xFF\x62", api.ErrForm}, {"\x7F\x61a\x62\xFF", api.ErrShort}, {"\x82\x61\xFF\x20", api.ErrForm}, {"\x82\x61\xFF", api.ErrForm}, {"\x9F\x61\xFF\x41", api.ErrForm},
	} {
		b := []byte(c.b)
		x, next, e := cbor.Read(b, 0)
		if e != c.e || e != api.OK && (next != 0 || !isZero(x)) || e == api.OK && next != len(b) {
			t.Errorf("Read(%.40x): %d %v, want %v", b, next, e, c.e)
		}
		if c.e != api.OK && cbor.Shortest(b) {
			t.Errorf("Shortest(%.40x): true", b)
		}
		before := append([]byte("\x00\x00"), b...)
		x, next, e = cbor.Read(before, 2)
		if e != c.e || e != api.OK && (next != 0 || !isZero(x)) || e == api.OK && next != len(before) {
			t.Errorf("Read(%.40x) behind others: %d %v, want %v", b, next, e, c.e)
		}
	}
}

func TestReadSharesNothing(t *testing.T) {
	b := []byte("\x85\x42ab\x62cd\x5F\x41e\x41f\xFF\x7F\x61g\x61h\xFF\x9F\x01\x02\x03\xFF")
	kept := bytes.Clone(b)
	x, _, e := cbor.Read(b, 0)
	if e != api.OK || !bytes.Equal(b, kept) {
		t.Fatalf("Read: %v, %x", e, b)
	}
	for i := range b {
		b[i] = 0
	}
	if !equal(x, listOf(octetsOf("ab"), textOf("cd"), octetsOf("ef"), textOf("gh"), listOf(num(1), num(2), num(3)))) {
		t.Errorf("Read shares with what it was given: %v", x)
	}
	if cap(x.L) != 5 || cap(x.L[4].L) != 3 || cap(x.L[0].B) != 2 || cap(x.L[1].B) != 2 || cap(x.L[2].B) != 2 || cap(x.L[3].B) != 2 {
		t.Errorf("Read hands out what lies behind: %v", x)
	}
}

func TestReadReadsNothingBehind(t *testing.T) {
	all := []byte("\x82\x01\x02")
	for n := range all {
		if _, _, e := cbor.Read(all[:n], 0); e != api.ErrShort {
			t.Errorf("Read of %d bytes: %v", n, e)
		}
	}
}

// maker makes items and bytes of them by chance.
type maker struct{ *rand.Rand }

func (m maker) item(deep int, left *int) cbor.Item {
	*left--
	kinds := []int{number, octets, text, list, list}
	if deep == api.MaxDeep {
		kinds = kinds[:3]
	}
	switch kinds[m.Intn(len(kinds))] {
	case octets:
		b := make([]byte, m.Intn(40))
		m.Read(b)
		return cbor.Item{Kind: octets, B: b}
	case text:
		return cbor.Item{Kind: text, B: []byte(string([]rune("aß€\U0001F54Az")[m.Intn(5):]) + strings.Repeat("q", m.Intn(30)))}
	case list:
		var l []cbor.Item
		for n := m.Intn(6); len(l) < n && *left > 0; {
			l = append(l, m.item(deep+1, left))
		}
		return cbor.Item{Kind: list, L: l}
	}
	return cbor.Item{N: m.Uint64() >> m.Intn(64)}
}

// head is a head of any length that it can have.
func (m maker) head(major int, n uint64) []byte {
	low := m.Intn(5)
	for low == 0 && n >= 24 || low > 0 && low < 4 && n>>(8<<(low-1)) > 0 {
		low = m.Intn(5)
	}
	if low == 0 {
		return []byte{byte(major<<5) | byte(n)}
	}
	b := []byte{byte(major<<5 | 23 + low)}
	for i := 1<<(low-1) - 1; i >= 0; i-- {
		b = append(b, byte(n>>(8*i)))
	}
	return b
}

// longer are bytes of an item, the heads of any length, and what may be open open or not.
func (m maker) longer(x cbor.Item) []byte {
	open := m.Intn(2) == 0
	var b []byte
	switch {
	case x.Kind == number:
		return m.head(number, x.N)
	case x.Kind == list:
		for _, y := range x.L {
			b = append(b, m.longer(y)...)
		}
		if open {
			return append(append([]byte{0x9F}, b...), 0xFF)
		}
		return append(m.head(list, uint64(len(x.L))), b...)
	case !open:
		return append(m.head(x.Kind, uint64(len(x.B))), x.B...)
	}
	b = []byte{byte(x.Kind<<5 | 31)}
	for rest := x.B; ; {
		n := m.cut(x.Kind, rest)
		b = append(append(b, m.head(x.Kind, uint64(n))...), rest[:n]...)
		if rest = rest[n:]; len(rest) == 0 {
			return append(b, 0xFF)
		}
	}
}

// cut is how many of the bytes the next piece has: a text's characters stay whole.
func (m maker) cut(kind int, b []byte) int {
	n := m.Intn(len(b) + 1)
	for kind == text && n < len(b) && b[n]&0xC0 == 0x80 {
		n++
	}
	return n
}

func TestThereAndBack(t *testing.T) {
	m := maker{rand.New(rand.NewSource(3))}
	for range 3000 {
		left := api.MaxItems
		x := m.item(1, &left)
		short, e := cbor.Write(x)
		if e != api.OK || !cbor.Shortest(short) {
			t.Fatalf("Write(%v): %x %v", x, short, e)
		}
		if y, next, e := cbor.Read(short, 0); e != api.OK || next != len(short) || !equal(x, y) || !cbor.Same(x, y) {
			t.Fatalf("Read(%x): %v %d %v, want %v", short, y, next, e, x)
		}
		long := m.longer(x)
		y, next, e := cbor.Read(append(append([]byte{7}, long...), 0xFF), 1)
		if e != api.OK || next != 1+len(long) || !equal(x, y) {
			t.Fatalf("Read(%x): %v %d %v, want %v", long, y, next, e, x)
		}
		if again, e := cbor.Write(y); e != api.OK || !bytes.Equal(again, short) {
			t.Fatalf("Write of what was read of %x: %x %v", long, again, e)
		}
		if got := cbor.Shortest(long); got != bytes.Equal(long, short) {
			t.Fatalf("Shortest(%x): %v", long, got)
		}
		for n := range long {
			if _, _, e := cbor.Read(long[:n], 0); e != api.ErrShort {
				t.Fatalf("Read(%x), the last bytes missing: %v", long[:n], e)
			}
		}
	}
}

func TestReadWhateverComes(t *testing.T) {
	m := maker{rand.New(rand.NewSource(4))}
	read := 0
	for range 200000 {
		left := 20
		b := m.longer(m.item(1, &left))
		for range 1 + m.Intn(3) {
			b[m.Intn(len(b))] = byte(m.Intn(256))
		}
		kept := bytes.Clone(b)
		at := m.Intn(len(b)+3) - 1
		x, next, e := cbor.Read(b, at)
		if !bytes.Equal(b, kept) {
			t.Fatalf("Read changed %x", kept)
		}
		if e != api.OK {
			if next != 0 || !isZero(x) {
				t.Fatalf("Read(%x, %d): %v %d %v", b, at, x, next, e)
			}
			continue
		}
		read++
		short, e := cbor.Write(x)
		if e != api.OK || len(short) > next-at || !cbor.Right(x) {
			t.Fatalf("Read(%x, %d): %v, that can't be written: %v", b, at, x, e)
		}
		if y, n, e := cbor.Read(short, 0); e != api.OK || n != len(short) || !equal(x, y) {
			t.Fatalf("Read(%x): %v %d %v, want %v", short, y, n, e, x)
		}
	}
	if read < 1000 {
		t.Errorf("only %d were read", read)
	}
}

func TestReadOfMuch(t *testing.T) {
	for _, c := range []struct {
		b string
		e api.Errno
	}{
		{strings.Repeat("\x81", 1<<20), api.ErrDeep},
		{strings.Repeat("\x9F", 1<<20), api.ErrDeep},
		{"\x9F" + zeros(1<<20), api.ErrLong},
		{"\x9A\x00\x10\x00\x00" + zeros(1<<20), api.ErrLong},
		{"\x5F" + strings.Repeat("\x40", 1<<20), api.ErrShort},
		{"\x5A\x00\x10\x00\x00" + zeros(1<<20), api.OK},
		{strings.Repeat("\xFF", 1<<20), api.ErrForm},
	} {
		if _, _, e := cbor.Read([]byte(c.b), 0); e != c.e {
			t.Errorf("Read(%.20x..): %v, want %v", c.b, e, c.e)
		}
	}
}
