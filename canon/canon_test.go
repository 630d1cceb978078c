package canon_test

import (
	"bytes"
	"encoding/binary"
	"encoding/hex"
	"hash/crc32"
	"math"
	"math/bits"
	"math/rand"
	"slices"
	"testing"

	"pigeonloft/api"
	"pigeonloft/canon"
	"pigeonloft/cbor"
)

// The kinds of items.
const (
	octets = 2
	text   = 3
	list   = 4
)

const (
	allFlags = 1 | 2 | 4 | 16
	most     = api.MaxTime
)

// shortOther goes from the highest bit down, with all bits turned round before and behind: another way than the program's.
func shortOther(b []byte) uint16 {
	s := uint16(0xFFFF)
	for _, x := range b {
		s ^= uint16(bits.Reverse8(x)) << 8
		for range 8 {
			if s&0x8000 != 0 {
				s = s<<1 ^ 0x1021
			} else {
				s <<= 1
			}
		}
	}
	return ^bits.Reverse16(s)
}

// sealed is what items are sealed as, of that type, whatever they say.
func sealed(kind int, l ...cbor.Item) cbor.Item {
	if kind == 0 {
		return cbor.List(l...)
	}
	x := cbor.List(append(slices.Clone(l), cbor.Bytes(make([]byte, 2*kind)))...)
	b, e := cbor.Write(x)
	if e != api.OK {
		panic(e)
	}
	if kind == 1 {
		binary.BigEndian.PutUint16(x.L[len(l)].B, shortOther(b))
	} else {
		binary.BigEndian.PutUint32(x.L[len(l)].B, crc32.Checksum(b, crc32.MakeTable(crc32.Castagnoli)))
	}
	return x
}

// equal compares items by all that they have, with nil lists and empty ones as one.
func equal(a, b cbor.Item) bool {
	return a.Kind == b.Kind && a.N == b.N && string(a.B) == string(b.B) && slices.EqualFunc(a.L, b.L, equal)
}

// alike compares blocks by all that they have.
func alike(a, b canon.Block) bool {
	return a.Type == b.Type && a.Number == b.Number && a.Flags == b.Flags && a.Sum == b.Sum && string(a.Data) == string(b.Data)
}

func isZero(b canon.Block) bool { return alike(b, canon.Block{}) }

// ordinary is a block of a type that asks nothing of its data.
func ordinary(sum int) canon.Block {
	return canon.Block{Type: 200, Number: 24, Flags: 16, Sum: sum, Data: []byte{0, 0xFF}}
}

// with is an ordinary block that was changed.
func with(change func(b *canon.Block)) canon.Block {
	b := ordinary(1)
	change(&b)
	return b
}

// typed is a block of a type, with data.
func typed(kind uint64, data string) canon.Block {
	return canon.Block{Type: kind, Number: 3, Sum: 2, Data: []byte(data)}
}

// itemsOf are those that the document names.
func itemsOf(b canon.Block) []cbor.Item {
	return []cbor.Item{cbor.Num(b.Type), cbor.Num(b.Number), cbor.Num(b.Flags), cbor.Num(uint64(b.Sum)), cbor.Bytes(b.Data)}
}

func TestTypes(t *testing.T) {
	if canon.Payload != 1 || canon.Previous != 6 || canon.Age != 7 || canon.Hops != 10 {
		t.Errorf("the types are %d, %d, %d and %d", canon.Payload, canon.Previous, canon.Age, canon.Hops)
	}
}

func TestFlags(t *testing.T) {
	for bit := range 64 {
		flag := uint64(1) << bit
		b := with(func(b *canon.Block) { b.Flags = flag })
		if got := canon.Right(b); got != (flag&allFlags != 0) {
			t.Errorf("Right with the flag %d: %v", flag, got)
		}
		b.Flags |= allFlags
		if got := canon.Right(b); got != (flag&allFlags != 0) {
			t.Errorf("Right with all flags and %d: %v", flag, got)
		}
	}
}

func TestWrittenBytes(t *testing.T) {
	noughts := hex.EncodeToString(make([]byte, api.MaxPayload))
	for _, c := range []struct {
		b    canon.Block
		want [3]string
	}{
		{canon.Block{Type: 1, Number: 1, Data: []byte("hi")}, [3]string{"8501010000426869", "860101000142686942b4ea", "8601010002426869441ff585a4"}},
		{canon.Block{Type: 1, Number: 1}, [3]string{"850101000040", "86010100014042" + "6178", "8601010002404406e2604f"}},
		{canon.Block{Type: 255, Number: 255, Flags: allFlags, Data: make([]byte, api.MaxPayload)}, [3]string{
			"8518ff18ff170058c8" + noughts, "8618ff18ff170158c8" + noughts + "42998e", "8618ff18ff170258c8" + noughts + "44b68d214f",
		}},
		{canon.Block{Type: 6, Number: 2, Data: []byte("\x82\x02\x82\x07\x01")}, [3]string{"8506020000458202820701", "860602000145820282070142e3bb", "8606020002458202820701447f2071c7"}},
		{canon.Block{Type: 6, Number: 2, Data: []byte("\x82\x01\x00")}, [3]string{"850602000043820100", "860602000143820100423f43", "8606020002438201004493478003"}},
		{canon.Block{Type: 6, Number: 2, Data: []byte("\x82\x01\x69//loft/in")}, [3]string{
			"85060200004c8201692f2f6c6f66742f696e", "86060200014c8201692f2f6c6f66742f696e421606", "86060200024c8201692f2f6c6f66742f696e44fd57213e",
		}},
		{canon.Block{Type: 7, Number: 3, Data: []byte("\x19\x01\xF4")}, [3]string{"8507030000431901f4", "8607030001431901f4422905", "8607030002431901f4445eed8dcc"}},
		{canon.Block{Type: 10, Number: 4, Data: []byte("\x82\x18\xFF\x18\xFF")}, [3]string{"850a040000458218ff18ff", "860a040001458218ff18ff42743f", "860a040002458218ff18ff4423d61cb3"}},
		{canon.Block{Type: 10, Number: 24, Data: []byte("\x82\x18\x1E\x03")}, [3]string{"850a181800004482181e03", "860a181800014482181e03427a57", "860a181800024482181e0344acae8e02"}},
	} {
		for sum, want := range c.want {
			c.b.Sum = sum
			x, e := canon.Write(c.b)
			got, _ := cbor.Write(x)
			if e != api.OK || hex.EncodeToString(got) != want {
				t.Errorf("Write(%v): %x %v", c.b, got, e)
			}
			if b, e := canon.Read(x); e != api.OK || !alike(b, c.b) {
				t.Errorf("Read(%v): %v %v", x, b, e)
			}
		}
	}
}

// rightData are types, with data that they may have.
func rightData() []canon.Block {
	long := string(bytes.Repeat([]byte{0x80}, api.MaxPayload))
	l := []canon.Block{
		typed(6, "\x82\x01\x00"), typed(6, "\x82\x02\x82\x01\x00"), typed(6, "\x82\x02\x82\x1A\xFF\xFF\xFF\xFF\x1A\xFF\xFF\xFF\xFF"), typed(6, "\x82\x01\x64//a/"), typed(6, "\x82\x01\x78\x2B//0123456789abcdef/0123456789/-0123456789xy"),
		typed(7, "\x00"), typed(7, "\x17"), typed(7, "\x18\x18"), typed(7, "\x19\x01\x00"), typed(7, "\x1A\xFF\xFF\xFF\xFF"), typed(7, "\x1B\x00\x00\x00\xFF\xFF\xFF\xFF\xFF"), typed(7, "\x1B\x00\x00\x01\x00\x00\x00\x00\x00"),
		typed(10, "\x82\x01\x00"), typed(10, "\x82\x01\x01"), typed(10, "\x82\x09\x09"), typed(10, "\x82\x18\xFE\x18\xFE"), typed(10, "\x82\x18\xFF\x00"), typed(10, "\x82\x18\xFF\x18\xFF"), typed(10, "\x82\x17\x16"),
	}
	for _, kind := range []uint64{1, 2, 3, 4, 5, 8, 9, 11, 12, 192, 254, 255} { // of these any bytes are right
		l = append(l, typed(kind, ""), typed(kind, "\x00"), typed(kind, "\xFF"), typed(kind, "\x82\x01\x00"), typed(kind, long))
	}
	return l
}

// rights are blocks that may be.
func rights() []canon.Block {
	l := rightData()
	for sum := range 3 {
		l = append(l, ordinary(sum), canon.Block{Type: 1, Number: 1, Sum: sum}, canon.Block{Type: 255, Number: 255, Flags: allFlags, Sum: sum, Data: make([]byte, api.MaxPayload)})
	}
	for _, n := range []uint64{1, 2, 23, 24, 254, 255} {
		l = append(l, with(func(b *canon.Block) { b.Number = n }))
	}
	for n := uint64(1); n <= 255; n++ {
		if n != 6 && n != 7 && n != 10 {
			l = append(l, with(func(b *canon.Block) { b.Type = n }))
		}
	}
	for _, n := range []int{0, 1, 23, 24, 199, 200} {
		l = append(l, with(func(b *canon.Block) { b.Data = bytes.Repeat([]byte{7}, n) }))
	}
	for flags := range uint64(32) {
		if flags&8 == 0 {
			l = append(l, with(func(b *canon.Block) { b.Flags = flags }))
		}
	}
	return l
}

// wrongData are types, with data that they may not have.
func wrongData() []canon.Block {
	l := []canon.Block{
		typed(6, "\x82\x02\x82\x00\x00"), typed(6, "\x82\x02\x82\x1B\x00\x00\x00\x01\x00\x00\x00\x00\x00"), typed(6, "\x82\x02\x82\x07\x1B\x00\x00\x00\x01\x00\x00\x00\x00"), typed(6, "\x82\x01\x01"), typed(6, "\x82\x01\x63//a"), typed(6, "\x82\x01\x64//A/"), typed(6, "\x82\x01\x44//a/"), typed(6, "\x82\x01\x75//0123456789abcdefg/x"), typed(6, "\x82\x01\x78\x1D//a/0123456789/-0123456789xyz"),
		typed(6, "\x00"), typed(6, "\x07"), typed(6, "\x80"), typed(6, "\x64//a/"), typed(6, "\x83\x01\x00\x00"), typed(6, "\x82\x02\x82\x07"), typed(6, "\x82\x02\x82\x07\x01\x00"), typed(6, "\x82\x01\x00\xFF"), typed(6, "ipn:7.1"), typed(6, "\x81\x82\x01\x00"),
		typed(6, "\x9F\x01\x00\xFF"), typed(6, "\x82\x18\x01\x00"), typed(6, "\x98\x02\x01\x00"), typed(6, "\x82\x02\x82\x18\x07\x01"), typed(6, "\x82\x02\x9F\x07\x01\xFF"), typed(6, "\x82\x01\x7F\x64//a/\xFF"), typed(6, "\x82\x01\x78\x04//a/"),
		typed(7, "\x1B\x00\x00\x01\x00\x00\x00\x00\x01"), typed(7, "\x1B\xFF\xFF\xFF\xFF\xFF\xFF\xFF\xFF"), typed(7, "\x00\x00"), typed(7, "\x05\xFF"), typed(7, "\x18"), typed(7, "\x19\x01"), typed(7, "\x81\x05"), typed(7, "\x41\x05"), typed(7, "\x61\x35"), typed(7, "\x40"), typed(7, "\x60"), typed(7, "\x20"), typed(7, "500"), typed(7, "\x82\x05\x05"),
		typed(7, "\x18\x00"), typed(7, "\x18\x17"), typed(7, "\x19\x00\xFF"), typed(7, "\x1A\x00\x00\xFF\xFF"), typed(7, "\x1B\x00\x00\x00\x00\xFF\xFF\xFF\xFF"), typed(7, "\x1F"),
		typed(10, "\x82\x00\x00"), typed(10, "\x82\x19\x01\x00\x00"), typed(10, "\x82\x01\x02"), typed(10, "\x82\x09\x0A"), typed(10, "\x82\x18\xFF\x19\x01\x00"), typed(10, "\x82\x1B\xFF\xFF\xFF\xFF\xFF\xFF\xFF\xFF\x00"), typed(10, "\x82\x05\x1B\xFF\xFF\xFF\xFF\xFF\xFF\xFF\xFF"), typed(10, "\x82\x1B\x00\x00\x00\x01\x00\x00\x00\x01\x00"),
		typed(10, "\x81\x05"), typed(10, "\x83\x05\x01\x01"), typed(10, "\x80"), typed(10, "\x05"), typed(10, "\x05\x01"), typed(10, "\x82\x05"), typed(10, "\x82\x05\x01\x00"), typed(10, "\x82\x05\x41\x01"), typed(10, "\x82\x05\x40"), typed(10, "\x82\x05\x60"), typed(10, "\x82\x05\x80"), typed(10, "\x82\x41\x05\x01"), typed(10, "\x82\x81\x05\x81\x01"), typed(10, "\x42\x05\x01"), typed(10, "\x62\x05\x01"), typed(10, "\x82\x82\x05\x01\x01"),
		typed(10, "\x9F\x05\x01\xFF"), typed(10, "\x98\x02\x05\x01"), typed(10, "\x82\x18\x05\x01"), typed(10, "\x82\x05\x18\x01"), typed(10, "\x82\x19\x00\xFF\x01"),
	}
	for _, kind := range []uint64{6, 7, 10} {
		l = append(l, typed(kind, ""), typed(kind, "\xFF"), typed(kind, "\x00\x01\x02\x03"), typed(kind, string(make([]byte, api.MaxPayload))), typed(kind, string(make([]byte, api.MaxPayload+1))))
	}
	return l
}

// wrongs are blocks that may not be.
func wrongs() []canon.Block {
	l := append(wrongData(), canon.Block{}, canon.Block{Type: 1}, canon.Block{Number: 1})
	for _, n := range []uint64{0, 256, 257, 262, 263, 266, 1 << 32, 1<<32 + 1, 1 << 63, math.MaxUint64} {
		l = append(l, with(func(b *canon.Block) { b.Type = n }), with(func(b *canon.Block) { b.Number = n }))
	}
	for _, n := range []int{-1, 3, 4, 256, 257, math.MinInt, math.MaxInt, -1 << 32, 1<<32 + 1} {
		l = append(l, with(func(b *canon.Block) { b.Sum = n }))
	}
	for _, n := range []uint64{8, 32, 64, 24, 31, 255, 256, 1 << 32, 1<<32 + 1, math.MaxUint64} {
		l = append(l, with(func(b *canon.Block) { b.Flags = n }))
	}
	for _, n := range []int{201, 202, 255, 256, 1000, 1 << 20} {
		l = append(l, with(func(b *canon.Block) { b.Data = make([]byte, n) }), canon.Block{Type: 1, Number: 1, Data: make([]byte, n)})
	}
	return l
}

func TestRightWriteAndRead(t *testing.T) {
	for _, b := range rights() {
		if !canon.Right(b) {
			t.Errorf("Right(%v): false", b)
		}
		want := sealed(b.Sum, itemsOf(b)...)
		if x, e := canon.Write(b); e != api.OK || !equal(x, want) || !cbor.Right(x) {
			t.Errorf("Write(%v): %v %v", b, x, e)
		}
		if y, e := canon.Read(want); e != api.OK || !alike(y, b) {
			t.Errorf("Read(%v): %v %v", want, y, e)
		}
	}
	for _, b := range wrongs() {
		if canon.Right(b) {
			t.Errorf("Right(%.80v): true", b)
		}
		if x, e := canon.Write(b); e != api.ErrForm || !equal(x, cbor.Item{}) {
			t.Errorf("Write(%.80v): %v %v", b, x, e)
		}
		if 0 <= b.Sum && b.Sum <= 2 { // sealed as it should be: it is the items that are no block's
			if y, e := canon.Read(sealed(b.Sum, itemsOf(b)...)); e != api.ErrForm || !isZero(y) {
				t.Errorf("Read of %.80v: %v %v", b, y, e)
			}
		}
	}
}

func TestSame(t *testing.T) {
	l := []canon.Block{
		{}, {Type: 1}, {Type: 1 << 63}, {Number: 1}, {Number: 2}, {Flags: 1}, {Flags: 8}, {Sum: 1}, {Sum: -1}, {Sum: 2}, {Data: []byte{0}}, {Data: []byte{1}}, {Data: []byte{1, 0}}, {Data: []byte{0, 1}}, {Data: make([]byte, 1000)}, {Data: make([]byte, 1001)},
		{Type: 1, Number: 1}, {Type: 1, Number: 1, Data: []byte("hi")}, {Type: 1, Number: 1, Data: []byte("ha")}, {Type: 1, Number: 1, Sum: 1, Data: []byte("hi")}, {Type: 7, Number: 1, Data: []byte{5}}, {Type: 7, Number: 1, Data: []byte{0x18, 5}},
	}
	for i, a := range l {
		for j, b := range l {
			if got := canon.Same(a, b); got != (i == j) {
				t.Errorf("Same(%v, %v): %v", a, b, got)
			}
		}
		b := a
		b.Data = slices.Clone(a.Data)
		if !canon.Same(a, b) {
			t.Errorf("Same(%v, %v): false", a, b)
		}
	}
	if !canon.Same(canon.Block{}, canon.Block{Data: []byte{}}) || !canon.Same(canon.Block{Data: []byte{}}, canon.Block{}) {
		t.Errorf("nil data and empty ones differ")
	}
	room := []byte{1, 2, 3}
	if !canon.Same(canon.Block{Data: room[:1]}, canon.Block{Data: []byte{1, 9}[:1]}) {
		t.Errorf("what lies behind the length is looked at")
	}
}

// Each of these is sealed as it should be: it is the items that are no block's.
func TestReadOfOtherItems(t *testing.T) {
	zero := cbor.Num(0)
	changes := []func(l []cbor.Item) []cbor.Item{
		func(l []cbor.Item) []cbor.Item { return l[:4] }, func(l []cbor.Item) []cbor.Item { return append(l, zero) }, func(l []cbor.Item) []cbor.Item { return append(l, cbor.Bytes(nil)) }, func(l []cbor.Item) []cbor.Item { return append(l, cbor.Bytes([]byte{1, 2})) }, func(l []cbor.Item) []cbor.Item { return append(l, cbor.Bytes([]byte{1, 2, 3, 4})) },
		func(l []cbor.Item) []cbor.Item { return append(l, l...) }, func(l []cbor.Item) []cbor.Item { l[0], l[4] = l[4], l[0]; return l }, func(l []cbor.Item) []cbor.Item { l[2], l[4] = l[4], l[2]; return l },
	}
	strange := []cbor.Item{cbor.Bytes(nil), cbor.Bytes([]byte{1}), cbor.Text(""), cbor.Text("1"), cbor.List(), cbor.List(cbor.Num(1))}
	others := [5][]cbor.Item{
		append(strange, zero, cbor.Num(256), cbor.Num(257), cbor.Num(math.MaxUint64)),
		append(strange, zero, cbor.Num(256), cbor.Num(257), cbor.Num(math.MaxUint64)),
		append(strange, cbor.Num(8), cbor.Num(32), cbor.Num(1<<63), cbor.Num(math.MaxUint64)),
		nil, // without a type it isn't sealed at all
		{zero, cbor.Num(5), cbor.Text(""), cbor.Text("ab"), cbor.List(), cbor.List(zero), cbor.List(cbor.Bytes(nil)), cbor.Bytes(make([]byte, api.MaxPayload+1)), cbor.Bytes(make([]byte, 100000))},
	}
	for at, l := range others {
		for _, x := range l {
			changes = append(changes, func(l []cbor.Item) []cbor.Item { l[at] = x; return l })
		}
	}
	for i, change := range changes {
		for sum := range 3 {
			l := change(itemsOf(ordinary(sum)))
			if b, e := canon.Read(sealed(sum, l...)); e != api.ErrForm || !isZero(b) {
				t.Errorf("Read of change %d, %v: %v %v", i, l, b, e)
			}
		}
	}
}

// noItems are items that may not be, or are no lists.
func noItems() []cbor.Item {
	self := make([]cbor.Item, 5)
	for i := range self {
		self[i] = cbor.Item{Kind: list, L: self}
	}
	holds := itemsOf(ordinary(0))
	holds[2] = cbor.Item{Kind: list, L: holds}
	doubled := cbor.Item{}
	for range 100 {
		doubled = cbor.Item{Kind: list, L: []cbor.Item{doubled, doubled}}
	}
	return []cbor.Item{
		{}, cbor.Num(1), cbor.Num(math.MaxUint64), cbor.Bytes(nil), cbor.Text("1"), cbor.List(), cbor.List(cbor.Num(1), cbor.Num(1), cbor.Num(0)), {Kind: -1}, {Kind: 5}, {Kind: 1, L: itemsOf(ordinary(0))}, {L: itemsOf(ordinary(0))}, {Kind: list, N: 1, L: itemsOf(ordinary(0))}, {Kind: list, B: []byte{1}, L: itemsOf(ordinary(0))}, {Kind: octets, L: itemsOf(ordinary(0))}, {Kind: text, L: itemsOf(ordinary(0))},
		{Kind: list, L: make([]cbor.Item, 300)}, self[0], {Kind: list, L: holds}, doubled, {Kind: list, L: append(itemsOf(ordinary(0))[:4], cbor.Item{Kind: octets, N: 2})}, {Kind: list, L: append(itemsOf(ordinary(0))[:4], cbor.Item{Kind: octets, L: make([]cbor.Item, 1)})},
	}
}

// Open's errors are ahead of those of the items.
func TestReadOfWhatIsNotSealed(t *testing.T) {
	fail := func(x cbor.Item, want api.Errno) {
		t.Helper()
		if b, e := canon.Read(x); e != want || !isZero(b) {
			t.Errorf("Read(%v): %v %v, want %v", x, b, e, want)
		}
	}
	for i, x := range noItems() {
		if b, e := canon.Read(x); e != api.ErrForm || !isZero(b) {
			t.Errorf("Read of no block %d: %v %v", i, b, e)
		}
	}
	for _, x := range []cbor.Item{cbor.Num(3), cbor.Num(256), cbor.Num(1<<32 + 1), cbor.Num(math.MaxUint64), cbor.Bytes([]byte{0}), cbor.Text("0"), cbor.List()} {
		l := itemsOf(ordinary(0))
		l[3] = x
		fail(cbor.List(l...), api.ErrForm)
	}
	for sum := 1; sum <= 2; sum++ {
		l := itemsOf(ordinary(sum))
		for _, x := range []cbor.Item{cbor.Num(0), cbor.Text("abcd"[:2*sum]), cbor.Bytes(nil), cbor.Bytes(make([]byte, 2*sum-1)), cbor.Bytes(make([]byte, 2*sum+1)), cbor.Bytes(make([]byte, 6-2*sum)), cbor.List(cbor.Bytes(make([]byte, 2*sum)))} {
			fail(cbor.List(append(l[:5:5], x)...), api.ErrForm)
		}
		fail(cbor.List(append(l[:5:5], cbor.Bytes(make([]byte, 2*sum)))...), api.ErrSum)
		for at, x := range []cbor.Item{cbor.Num(0), cbor.Num(256), cbor.Num(8), 4: cbor.Text("no")} {
			if at != 3 {
				y := sealed(sum, l...)
				y.L[at] = x
				fail(y, api.ErrSum)
			}
		}
		fail(cbor.List(cbor.Num(1), cbor.Num(1), cbor.Num(0), cbor.Num(uint64(sum)), cbor.Bytes(make([]byte, 2*sum))), api.ErrSum) // without data, and with a sum that isn't theirs
		y := sealed(sum, l...)
		y.L[3].N = 0 // without a sum the last item is one too many
		fail(y, api.ErrForm)
		y.L[3].N = uint64(3 - sum)
		fail(y, api.ErrForm)
	}
}

// Bits that are turned side by side within a block's data are told by its sum.
func TestTurnedData(t *testing.T) {
	for sum := 1; sum <= 2; sum++ {
		x, e := canon.Write(canon.Block{Type: 1, Number: 1, Sum: sum, Data: []byte("a payload, thirty bytes long..")})
		if e != api.OK {
			t.Fatal(e)
		}
		data := x.L[4].B
		for at := range 8 * len(data) {
			for width := range 16 * sum {
				if at+width >= 8*len(data) {
					break
				}
				turn := func() {
					data[at/8] ^= 1 << (at % 8)
					if width > 0 {
						data[(at+width)/8] ^= 1 << ((at + width) % 8)
					}
				}
				turn()
				if b, e := canon.Read(x); e != api.ErrSum || !isZero(b) {
					t.Fatalf("Read with bits %d and %d turned: %v %v", at, at+width, b, e)
				}
				turn()
			}
		}
	}
}

func TestBlocksShareNothing(t *testing.T) {
	room := []byte("abcdef")
	b := canon.Block{Type: 1, Number: 1, Sum: 2, Data: room[:3]}
	x, e := canon.Write(b)
	y, _ := canon.Write(b)
	if e != api.OK || string(room) != "abcdef" {
		t.Fatalf("Write: %v, and what was handed in is %s", e, room)
	}
	room[0] = '?'
	x.L[4].B[1], x.L[0].N, x.L[5].B[0] = '?', 9, 9
	_ = append(x.L[4].B, "xyz"...)
	if string(room) != "?bcdef" || string(y.L[4].B) != "abc" || cap(y.L[4].B) != 3 {
		t.Errorf("what was written shares with what was handed in: %s %v", room, y)
	}
	before := cbor.List(y.L...)
	z, e := canon.Read(y)
	if e != api.OK || !equal(cbor.List(y.L...), before) || cap(z.Data) != len(z.Data) {
		t.Errorf("Read: %v, and what was handed in is %v", e, y)
	}
	y.L[4].B[0] = '?'
	if string(z.Data) != "abc" {
		t.Errorf("what was read hangs on what was handed in: %s", z.Data)
	}
	z.Data[1] = '!'
	if string(y.L[4].B) != "?bc" {
		t.Errorf("what was handed in hangs on what was read: %s", y.L[4].B)
	}
}

// anyBlock is a block that may be.
func anyBlock(r *rand.Rand) canon.Block {
	b := canon.Block{Type: 1 + uint64(r.Intn(255)), Flags: r.Uint64() & allFlags, Data: make([]byte, r.Intn(1+r.Intn(api.MaxPayload+1)))}
	r.Read(b.Data)
	number, sum := 1+uint64(r.Intn(255)), r.Intn(3)
	switch r.Intn(4) {
	case 0:
		b, _ = canon.OfPrevious(number, sum, anyName(r))
	case 1:
		b, _ = canon.OfAge(number, sum, anyAge(r))
	case 2:
		limit := 1 + uint64(r.Intn(255))
		b, _ = canon.OfHops(number, sum, limit, uint64(r.Intn(int(limit)+1)))
	default:
		if b.Type == canon.Previous || b.Type == canon.Age || b.Type == canon.Hops {
			b.Type = canon.Payload
		}
	}
	b.Number, b.Sum = number, sum
	return b
}

func TestThereAndBack(t *testing.T) {
	r := rand.New(rand.NewSource(3))
	for range 5000 {
		b := anyBlock(r)
		x, e := canon.Write(b)
		if y, f := canon.Read(x); e != api.OK || f != api.OK || !alike(y, b) {
			t.Fatalf("Read(%v): %v %v, want %v, %v", x, y, f, b, e)
		}
		w, _ := cbor.Write(x)
		if y, n, e := cbor.Read(w, 0); e != api.OK || n != len(w) || !equal(x, y) {
			t.Fatalf("the bytes %x: %v %v", w, y, e)
		}
	}
}

// What is read is written as it was: there is one way alone.
func TestOneWayAlone(t *testing.T) {
	r := rand.New(rand.NewSource(4))
	read := 0
	for range 200000 {
		x, _ := canon.Write(anyBlock(r))
		w, _ := cbor.Write(x)
		w[r.Intn(min(len(w), 20))] ^= 1 << r.Intn(8)
		x, _, e := cbor.Read(w, 0)
		if e != api.OK {
			continue
		}
		b, e := canon.Read(x)
		if e != api.OK {
			if e != api.ErrForm && e != api.ErrSum || !isZero(b) {
				t.Fatalf("Read(%v): %v %v", x, b, e)
			}
			continue
		}
		read++
		if again, e := canon.Write(b); e != api.OK || !equal(again, x) || !canon.Right(b) {
			t.Fatalf("Read(%v): %v, whose item is %v %v", x, b, again, e)
		}
	}
	if read < 1000 {
		t.Errorf("only %d were blocks", read)
	}
}
