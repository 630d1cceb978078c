package primary_test

import (
	"bytes"
	"math"
	"math/bits"
	"math/rand"
	"strings"
	"testing"

	"pigeonloft/api"
	"pigeonloft/cbor"
	"pigeonloft/eid"
	"pigeonloft/head"
	"pigeonloft/ident"
	"pigeonloft/primary"
)

const (
	most     = api.MaxTime
	greatest = 1<<32 - 1
	allFlags = 2 | 4 | 32 | 16384 | 131072 | 262144
)

func ipn(node, service uint64) eid.Eid { return eid.Eid{Ipn: true, Node: node, Service: service} }

func dtn(host, demux string) eid.Eid { return eid.Eid{Host: host, Demux: demux} }

// ordinary is a first block with everything that one has.
func ordinary(sum int) primary.Primary {
	return primary.Primary{
		Flags: primary.Delivered, Sum: sum, Dest: ipn(7, 1), Report: ipn(7, 2), Life: 500,
		Ident: ident.Ident{Source: dtn("loft", "in"), Time: 5, Seq: 2},
	}
}

// full is a first block with the most of everything.
func full(sum int) primary.Primary {
	return primary.Primary{
		Flags: allFlags, Sum: sum, Dest: dtn("0123456789abcdef", "0123456789/-0123456789xy"), Report: dtn("-", ""), Life: most,
		Ident: ident.Ident{Source: ipn(greatest, greatest), Time: most, Seq: most},
	}
}

// with is an ordinary first block that was changed.
func with(change func(p *primary.Primary)) primary.Primary {
	p := ordinary(1)
	change(&p)
	return p
}

func TestFlags(t *testing.T) {
	for _, c := range []struct{ got, want int }{
		{primary.Admin, 2}, {primary.Whole, 4}, {primary.Answer, 32}, {primary.Received, 16384}, {primary.Delivered, 131072}, {primary.Deleted, 262144},
	} {
		if c.got != c.want {
			t.Errorf("the flag %d is %d", c.want, c.got)
		}
	}
	for bit := range 64 {
		flag := uint64(1) << bit
		p := with(func(p *primary.Primary) { p.Flags = flag })
		if got := primary.Right(p); got != (flag&allFlags != 0) {
			t.Errorf("Right with the flag %d: %v", flag, got)
		}
		p.Flags |= allFlags
		if got := primary.Right(p); got != (flag&allFlags != 0) {
			t.Errorf("Right with all flags and %d: %v", flag, got)
		}
	}
}

// rights are first blocks that may be.
func rights() []primary.Primary {
	l := []primary.Primary{{}}
	for sum := range 3 {
		l = append(l, primary.Primary{Sum: sum}, ordinary(sum), full(sum), primary.Primary{Sum: sum, Life: most}, primary.Primary{Sum: sum, Flags: allFlags})
	}
	for _, n := range []eid.Eid{{}, ipn(1, 0), ipn(greatest, 0), dtn("a", ""), dtn("a", "b")} {
		l = append(l, with(func(p *primary.Primary) { p.Dest = n }), with(func(p *primary.Primary) { p.Report = n }), with(func(p *primary.Primary) { p.Ident.Source = n }))
	}
	for _, n := range []uint64{0, 1, 23, 24, 255, 256, 65535, 65536, greatest, greatest + 1, most - 1, most} {
		l = append(l, with(func(p *primary.Primary) { p.Life = n }), with(func(p *primary.Primary) { p.Ident.Time = n }), with(func(p *primary.Primary) { p.Ident.Seq = n }))
	}
	for flags := range uint64(64) { // each set of the six
		p := ordinary(2)
		p.Flags = 0
		for i, f := range []uint64{primary.Admin, primary.Whole, primary.Answer, primary.Received, primary.Delivered, primary.Deleted} {
			p.Flags |= flags >> i & 1 * f
		}
		l = append(l, p)
	}
	return l
}

// wrongs are first blocks that may not be.
func wrongs() []primary.Primary {
	var l []primary.Primary
	for _, sum := range []int{-1, 3, 4, 256, 257, math.MinInt, math.MaxInt, -1 << 32, 1<<32 + 1} {
		l = append(l, ordinary(sum), primary.Primary{Sum: sum})
	}
	for _, n := range []eid.Eid{{Ipn: true}, ipn(0, 1), ipn(1<<32, 0), ipn(1, 1<<32), {Service: 1}, {Node: 1, Host: "a"}, dtn("", "a"), dtn("A", ""), dtn("a", "\xFF"), dtn(strings.Repeat("a", 17), ""), dtn("a", strings.Repeat("a", 25))} {
		l = append(l, with(func(p *primary.Primary) { p.Dest = n }), with(func(p *primary.Primary) { p.Report = n }), with(func(p *primary.Primary) { p.Ident.Source = n }))
	}
	for _, n := range []uint64{most + 1, 1 << 63, math.MaxUint64} {
		l = append(l, with(func(p *primary.Primary) { p.Life = n }), with(func(p *primary.Primary) { p.Ident.Time = n }), with(func(p *primary.Primary) { p.Ident.Seq = n }), with(func(p *primary.Primary) { p.Flags = n }))
	}
	for bit := range 64 {
		if flag := uint64(1) << bit; flag&allFlags == 0 {
			l = append(l, with(func(p *primary.Primary) { p.Flags |= flag }))
		}
	}
	return l
}

func TestWrittenBytes(t *testing.T) {
	for _, c := range []struct {
		make func(sum int) primary.Primary
		want [3]string
	}{
		{func(sum int) primary.Primary { return primary.Primary{Sum: sum} }, [3]string{
			"8807000082010082010082010082000000",
			"8907000182010082010082010082000000424ff1",
			"890700028201008201008201008200000044a8d687f5",
		}},
		{ordinary, [3]string{
			"88071a000200000082028207018201692f2f6c6f66742f696e82028207028205021901f4",
			"89071a000200000182028207018201692f2f6c6f66742f696e82028207028205021901f4425548",
			"89071a000200000282028207018201692f2f6c6f66742f696e82028207028205021901f444833660fd",
		}},
		{full, [3]string{
			"88071a00064026008201782b2f2f303132333435363738396162636465662f303132333435363738392f2d3031323334353637383978798202821affffffff1affffffff8201642f2f2d2f821b00000100000000001b00000100000000001b0000010000000000",
			"89071a00064026018201782b2f2f303132333435363738396162636465662f303132333435363738392f2d3031323334353637383978798202821affffffff1affffffff8201642f2f2d2f821b00000100000000001b00000100000000001b000001000000000042b5ed",
			"89071a00064026028201782b2f2f303132333435363738396162636465662f303132333435363738392f2d3031323334353637383978798202821affffffff1affffffff8201642f2f2d2f821b00000100000000001b00000100000000001b000001000000000044755b2e16",
		}},
	} {
		for sum, want := range c.want {
			x, e := primary.Write(c.make(sum))
			if e != api.OK || hexOf(t, x) != want {
				t.Errorf("Write(%v): %v %v", c.make(sum), x, e)
			}
		}
	}
}

// itemsOf are those that the document names, of a block whose names' items are given.
func itemsOf(p primary.Primary, dest, source, report cbor.Item) []cbor.Item {
	return []cbor.Item{cbor.Num(7), cbor.Num(p.Flags), cbor.Num(uint64(p.Sum)), dest, source, report, cbor.List(cbor.Num(p.Ident.Time), cbor.Num(p.Ident.Seq)), cbor.Num(p.Life)}
}

func nameItem(t *testing.T, n eid.Eid) cbor.Item {
	t.Helper()
	x, e := eid.Write(n)
	if e != api.OK {
		t.Fatalf("no name: %v", n)
	}
	return x
}

func TestRightWriteAndRead(t *testing.T) {
	for _, p := range rights() {
		if !primary.Right(p) {
			t.Errorf("Right(%v): false", p)
		}
		want := sealed(p.Sum, itemsOf(p, nameItem(t, p.Dest), nameItem(t, p.Ident.Source), nameItem(t, p.Report))...)
		if x, e := primary.Write(p); e != api.OK || !equal(x, want) || !cbor.Right(x) {
			t.Errorf("Write(%v): %v %v", p, x, e)
		}
		if q, e := primary.Read(want); e != api.OK || q != p {
			t.Errorf("Read(%v): %v %v", want, q, e)
		}
	}
	for _, p := range wrongs() {
		if primary.Right(p) {
			t.Errorf("Right(%v): true", p)
		}
		if x, e := primary.Write(p); e != api.ErrForm || !isZero(x) {
			t.Errorf("Write(%v): %v %v", p, x, e)
		}
	}
}

// ordinaryItems are those of an ordinary block, without a sum.
func ordinaryItems(sum int) []cbor.Item {
	return itemsOf(ordinary(sum), cbor.List(cbor.Num(2), cbor.List(cbor.Num(7), cbor.Num(1))), cbor.List(cbor.Num(1), cbor.Text("//loft/in")), cbor.List(cbor.Num(2), cbor.List(cbor.Num(7), cbor.Num(2))))
}

// Each of these is sealed as it should be: it is the items that are no first block's.
func TestReadOfOtherItems(t *testing.T) {
	zero := cbor.Num(0)
	changes := []func(l []cbor.Item) []cbor.Item{
		func(l []cbor.Item) []cbor.Item { return l[:7] }, func(l []cbor.Item) []cbor.Item { return l[:3] }, func(l []cbor.Item) []cbor.Item { return append(l, zero) }, func(l []cbor.Item) []cbor.Item { return append(l, cbor.Bytes([]byte{1, 2})) }, func(l []cbor.Item) []cbor.Item { return append(l, cbor.Bytes([]byte{1, 2, 3, 4})) },
		func(l []cbor.Item) []cbor.Item { return append(l[:5], l[6:]...) }, func(l []cbor.Item) []cbor.Item { l[3], l[7] = l[7], l[3]; return l }, func(l []cbor.Item) []cbor.Item { l[5], l[6] = l[6], l[5]; return l },
	}
	others := [8][]cbor.Item{
		{zero, cbor.Num(6), cbor.Num(8), cbor.Num(math.MaxUint64), cbor.Bytes([]byte{7}), cbor.Text("7"), cbor.List(cbor.Num(7)), cbor.List()},
		{cbor.Num(1), cbor.Num(8), cbor.Num(16), cbor.Num(64), cbor.Num(allFlags + 1), cbor.Num(1 << 63), cbor.Num(math.MaxUint64), cbor.Bytes(nil), cbor.Text(""), cbor.List(), cbor.List(zero)},
		nil, // without a type it isn't sealed at all
		{zero, cbor.Num(1), cbor.Bytes(nil), cbor.Text("ipn:7.1"), cbor.List(), cbor.List(zero, zero), cbor.List(cbor.Num(2), cbor.List(zero, zero)), cbor.List(cbor.Num(1), cbor.Text("//A/")), cbor.List(cbor.Num(1), cbor.Num(1)), cbor.List(cbor.Num(7), cbor.Num(1))},
		nil, // filled from the one ahead of it
		nil,
		{zero, cbor.Bytes(nil), cbor.Text(""), cbor.List(), cbor.List(zero), cbor.List(zero, zero, zero), cbor.List(cbor.Num(most+1), zero), cbor.List(zero, cbor.Num(most+1)), cbor.List(cbor.Num(math.MaxUint64), cbor.Num(math.MaxUint64)), cbor.List(cbor.Bytes(nil), zero), cbor.List(zero, cbor.Text("")), cbor.List(cbor.List(), cbor.List()), cbor.List(cbor.List(zero, zero))},
		{cbor.Num(most + 1), cbor.Num(1 << 63), cbor.Num(math.MaxUint64), cbor.Bytes(nil), cbor.Bytes([]byte{1, 2}), cbor.Text(""), cbor.List(), cbor.List(zero)},
	}
	others[4], others[5] = others[3], others[3]
	for at, l := range others {
		for _, x := range l {
			changes = append(changes, func(l []cbor.Item) []cbor.Item { l[at] = x; return l })
		}
	}
	for i, change := range changes {
		for sum := range 3 {
			l := change(ordinaryItems(sum))
			if p, e := primary.Read(sealed(sum, l...)); e != api.ErrForm || p != (primary.Primary{}) {
				t.Errorf("Read of change %d, %v: %v %v", i, l, p, e)
			}
		}
	}
}

// Open's errors are ahead of those of the items.
func TestReadOfWhatIsNotSealed(t *testing.T) {
	fail := func(x cbor.Item, want api.Errno) {
		t.Helper()
		if p, e := primary.Read(x); e != want || p != (primary.Primary{}) {
			t.Errorf("Read(%v): %v %v, want %v", x, p, e, want)
		}
	}
	for i, x := range append(noItems(), cbor.Num(0), cbor.Num(7), cbor.Bytes(nil), cbor.Text("7"), cbor.List(), cbor.List(cbor.Num(7), cbor.Num(0))) {
		if p, e := primary.Read(x); e != api.ErrForm || p != (primary.Primary{}) {
			t.Errorf("Read of no block %d: %v %v", i, p, e)
		}
	}
	for _, x := range []cbor.Item{cbor.Num(3), cbor.Num(math.MaxUint64), cbor.Bytes([]byte{0}), cbor.Text("0"), cbor.List()} {
		l := ordinaryItems(0)
		l[2] = x
		fail(cbor.List(l...), api.ErrForm)
	}
	for sum := 1; sum <= 2; sum++ {
		l := ordinaryItems(sum)
		fail(cbor.List(l...), api.ErrForm)
		for _, x := range []cbor.Item{cbor.Num(0), cbor.Text("abcd"[:2*sum]), cbor.Bytes(nil), cbor.Bytes(make([]byte, 2*sum-1)), cbor.Bytes(make([]byte, 2*sum+1)), cbor.Bytes(make([]byte, 6-2*sum)), cbor.List(cbor.Bytes(make([]byte, 2*sum)))} {
			fail(cbor.List(append(l[:8:8], x)...), api.ErrForm)
		}
		fail(cbor.List(append(l[:8:8], cbor.Bytes(make([]byte, 2*sum)))...), api.ErrSum)
		for _, c := range []struct {
			at int
			x  cbor.Item
		}{
			{0, cbor.Num(6)}, {1, cbor.Num(1)}, {3, cbor.Num(0)}, {6, cbor.List(cbor.Num(most+1), cbor.Num(0))}, {7, cbor.Num(most + 1)},
		} {
			y := sealed(sum, l...)
			y.L[c.at] = c.x
			fail(y, api.ErrSum)
		}
		y := sealed(sum, l...)
		y.L[2].N = 0 // without a sum the last item is one too many
		fail(y, api.ErrForm)
		y.L[2].N = uint64(3 - sum)
		fail(y, api.ErrForm)
	}
}

func anyName(r *rand.Rand) eid.Eid {
	switch r.Intn(3) {
	case 0:
		return eid.Eid{}
	case 1:
		return ipn(max(1, uint64(r.Uint32())>>r.Intn(32)), uint64(r.Uint32())>>r.Intn(32))
	}
	return dtn("loft-7"[r.Intn(6):], "in/3-4"[r.Intn(7):])
}

func anyTime(r *rand.Rand) uint64 {
	return min(most, r.Uint64()>>(23+r.Intn(41)))
}

func anyBlock(r *rand.Rand) primary.Primary {
	return primary.Primary{
		Flags: r.Uint64() & allFlags, Sum: r.Intn(3), Dest: anyName(r), Report: anyName(r), Life: anyTime(r),
		Ident: ident.Ident{Source: anyName(r), Time: anyTime(r), Seq: anyTime(r)},
	}
}

func TestThereAndBack(t *testing.T) {
	r := rand.New(rand.NewSource(3))
	for range 5000 {
		p := anyBlock(r)
		x, e := primary.Write(p)
		if q, f := primary.Read(x); e != api.OK || f != api.OK || q != p {
			t.Fatalf("Read(%v): %v %v, want %v", x, q, f, p)
		}
		b, _ := cbor.Write(x)
		if y, n, e := cbor.Read(b, 0); e != api.OK || n != len(b) || !equal(x, y) {
			t.Fatalf("the bytes %x: %v %v", b, y, e)
		}
	}
}

// What is read is written as it was: there is one way alone.
func TestOneWayAlone(t *testing.T) {
	r := rand.New(rand.NewSource(4))
	read := 0
	for range 200000 {
		p := anyBlock(r)
		x, _ := primary.Write(p)
		b, _ := cbor.Write(x)
		b[r.Intn(len(b))] ^= 1 << r.Intn(8)
		x, _, e := cbor.Read(b, 0)
		if e != api.OK {
			continue
		}
		q, e := primary.Read(x)
		if e != api.OK {
			if e != api.ErrForm && e != api.ErrSum || q != (primary.Primary{}) {
				t.Fatalf("Read(%v): %v %v", x, q, e)
			}
			continue
		}
		read++
		if again, e := primary.Write(q); e != api.OK || !equal(again, x) || !primary.Right(q) {
			t.Fatalf("Read(%v): %v, whose item is %v %v", x, q, again, e)
		}
	}
	if read < 1000 {
		t.Errorf("only %d were first blocks", read)
	}
}

func TestBlocksShareNothing(t *testing.T) {
	p := ordinary(2)
	a, _ := primary.Write(p)
	b, _ := primary.Write(p)
	for _, x := range []*cbor.Item{&a.L[4].L[1], &a.L[8]} {
		x.B[0] ^= 1
	}
	a.L[0].N, a.L[3].L[1].L[0].N = 9, 9
	if q, e := primary.Read(b); e != api.OK || q != p {
		t.Errorf("the other one is changed: %v %v", q, e)
	}
	before := cbor.List(b.L...)
	q, _ := primary.Read(b)
	if !equal(cbor.List(b.L...), before) {
		t.Errorf("Read changed it: %v", b)
	}
	b.L[4].L[1].B[2] = 'x'
	if q != p {
		t.Errorf("what was read hangs on what was handed in: %v", q)
	}
}

// numbers are all the numbers within an item.
func numbers(x *cbor.Item) []*cbor.Item {
	if x.Kind == number {
		return []*cbor.Item{x}
	}
	var l []*cbor.Item
	for i := range x.L {
		l = append(l, numbers(&x.L[i])...)
	}
	return l
}

// turned is a number's bytes with the bits of pattern turned, from bit at on, the lowest of a byte first.
func turned(b []byte, at int, pattern uint64) []byte {
	b = bytes.Clone(b)
	for ; pattern != 0; at, pattern = at+1, pattern>>1 {
		if pattern&1 == 1 {
			b[at/8] ^= 1 << (at % 8)
		}
	}
	return b
}

// burst turns bits of a number, where that is another number of the same length, and tells whether it is.
func burst(n *cbor.Item, at int, pattern uint64) bool {
	b, _ := head.Write(head.Head{N: n.N})
	if at+bits.Len64(pattern) > 8*len(b) {
		return false
	}
	b = turned(b, at, pattern)
	h, next, e := head.Read(b, 0)
	if e != api.OK || h.Major != 0 || next != len(b) || !head.Shortest(b, 0) {
		return false
	}
	n.N = h.N
	return true
}

// told checks that a block of which a number is turned is told, as a block and as items.
func told(t *testing.T, x cbor.Item, n *cbor.Item, at int, pattern uint64) int {
	was := n.N
	if !burst(n, at, pattern) {
		return 0
	}
	want := api.ErrSum
	if n == &x.L[2] { // the type: what stands at the end is of another one
		want = api.ErrForm
	}
	if p, e := primary.Read(x); e != want || p != (primary.Primary{}) {
		t.Fatalf("%d instead of %d, in %v: %v %v", n.N, was, x, p, e)
	}
	n.N = was
	return 1
}

func TestBurstsOfTheShortSum(t *testing.T) {
	for _, p := range []primary.Primary{ordinary(1), full(1), {Sum: 1}} {
		x, _ := primary.Write(p)
		count := 0
		for _, n := range numbers(&x) {
			for at := range 8 * head.Size(head.Head{N: n.N}) {
				for pattern := uint64(1); pattern < 1<<16; pattern += 2 {
					if bits.OnesCount64(pattern) <= 2 || pattern%97 == 1 || pattern >= 0xFF00 {
						count += told(t, x, n, at, pattern)
					}
				}
			}
		}
		if count < 40 {
			t.Errorf("only %d were turned", count)
		}
	}
}

func TestBurstsOfTheLongSum(t *testing.T) {
	r := rand.New(rand.NewSource(5))
	for _, p := range []primary.Primary{ordinary(2), full(2), {Sum: 2}} {
		x, _ := primary.Write(p)
		count := 0
		for _, n := range numbers(&x) {
			for at := range 8 * head.Size(head.Head{N: n.N}) {
				for width := range 32 {
					count += told(t, x, n, at, 1|1<<width)
					count += told(t, x, n, at, uint64(r.Uint32())>>width|1)
				}
				count += told(t, x, n, at, greatest)
			}
		}
		if count < 40 {
			t.Errorf("only %d were turned", count)
		}
	}
}
