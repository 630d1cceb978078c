package bundle_test

import (
	"bytes"
	"encoding/hex"
	"math"
	"slices"
	"strings"
	"testing"

	"pigeonloft/api"
	"pigeonloft/bundle"
	"pigeonloft/canon"
	"pigeonloft/cbor"
	"pigeonloft/eid"
	"pigeonloft/ident"
	"pigeonloft/primary"
)

const most = api.MaxTime

func ipn(node, service uint64) eid.Eid { return eid.Eid{Ipn: true, Node: node, Service: service} }

func dtn(host, demux string) eid.Eid { return eid.Eid{Host: host, Demux: demux} }

// first is a first block with everything that one has.
func first() primary.Primary {
	return primary.Primary{
		Flags: primary.Delivered, Sum: 1, Dest: ipn(7, 1), Report: ipn(7, 2), Life: 500,
		Ident: ident.Ident{Source: dtn("loft", "in"), Time: 5, Seq: 2},
	}
}

func payload(data string) canon.Block {
	return canon.Block{Type: 1, Number: 1, Data: []byte(data)}
}

// typed is a block of a type that asks nothing of its data.
func typed(kind, number uint64, data string) canon.Block {
	return canon.Block{Type: kind, Number: number, Data: []byte(data)}
}

func previous(number uint64) canon.Block { return typed(6, number, "\x82\x02\x82\x09\x00") }
func age(number uint64) canon.Block      { return typed(7, number, "\x19\x01\xF4") }
func hops(number uint64) canon.Block     { return typed(10, number, "\x82\x18\x1E\x03") }

func behind(l ...canon.Block) bundle.Bundle { return bundle.Bundle{Primary: first(), Blocks: l} }

// alone is the example of a payload alone.
func alone() bundle.Bundle { return bundle.Bundle{Blocks: []canon.Block{payload("hi")}} }

// full is a bundle with a block of each kind.
func full() bundle.Bundle {
	b := behind(previous(2), age(3), hops(4), typed(200, 24, "\x00\xFF"), payload("payload"))
	b.Blocks[1].Flags, b.Blocks[1].Sum = 1, 1
	b.Blocks[2].Flags, b.Blocks[2].Sum = 4, 2
	b.Blocks[3].Flags = 16
	b.Blocks[4].Sum = 2
	return b
}

// alike compares bundles by all that they have.
func alike(a, b bundle.Bundle) bool {
	return a.Primary == b.Primary && slices.EqualFunc(a.Blocks, b.Blocks, alikeBlocks)
}

func alikeBlocks(a, b canon.Block) bool {
	return a.Type == b.Type && a.Number == b.Number && a.Flags == b.Flags && a.Sum == b.Sum && string(a.Data) == string(b.Data)
}

func isZero(b bundle.Bundle) bool { return alike(b, bundle.Bundle{}) }

func copyOf(b bundle.Bundle) bundle.Bundle {
	b.Blocks = slices.Clone(b.Blocks)
	for i := range b.Blocks {
		b.Blocks[i].Data = slices.Clone(b.Blocks[i].Data)
	}
	return b
}

func unhex(s string) []byte {
	b, e := hex.DecodeString(s)
	if e != nil {
		panic(e)
	}
	return b
}

// The bytes are worked out apart from the program.
const (
	aloneBytes = "9f" + "8807000082010082010082010082000000" + "8501010000426869" + "ff"
	fullBytes  = "9f" + "89071a000200000182028207018201692f2f6c6f66742f696e82028207028205021901f4425548" +
		"85060200004582028209008607030101431901f44264f8860a0404024482181e0344d44555bc8518c8181810004200ff8601010002477061796c6f616444dcb49ba2" + "ff"
)

func TestWrittenBytes(t *testing.T) {
	for _, c := range []struct {
		b    bundle.Bundle
		want string
	}{{alone(), aloneBytes}, {full(), fullBytes}} {
		b, e := bundle.Write(c.b)
		if e != api.OK || hex.EncodeToString(b) != c.want || cap(b) != len(b) {
			t.Errorf("Write(%v): %x %v", c.b, b, e)
		}
		if !bundle.Shortest(unhex(c.want)) {
			t.Errorf("Shortest(%s): false", c.want)
		}
		if x, e := bundle.Read(unhex(c.want)); e != api.OK || !alike(x, c.b) {
			t.Errorf("Read(%s): %v %v", c.want, x, e)
		}
	}
}

// sized is a bundle of so many bytes, from 450 to 626.
func sized(n int) bundle.Bundle {
	data := strings.Repeat("x", 180)
	b := behind(typed(200, 24, data), typed(201, 25, data), payload(data))
	b.Blocks[2].Data = make([]byte, len(data)+n-plain(b))
	return b
}

// plain is how many bytes a bundle would have, whatever its size and places: those of its blocks, and two.
func plain(b bundle.Bundle) int {
	n := 2
	p, e := primary.Write(b.Primary)
	if e != api.OK {
		panic(e)
	}
	for _, x := range append([]cbor.Item{p}, blockItems(b)...) {
		w, e := cbor.Write(x)
		if e != api.OK {
			panic(e)
		}
		n += len(w)
	}
	return n
}

func blockItems(b bundle.Bundle) []cbor.Item {
	var l []cbor.Item
	for _, x := range b.Blocks {
		y, e := canon.Write(x)
		if e != api.OK {
			panic(e)
		}
		l = append(l, y)
	}
	return l
}

// row is so many blocks, the payload the last one.
func row(n int) []canon.Block {
	var l []canon.Block
	for i := range n - 1 {
		l = append(l, typed(200, uint64(i+2), "x"))
	}
	return append(l, payload("hi"))
}

// rights are bundles that may be.
func rights() []bundle.Bundle {
	l := []bundle.Bundle{
		alone(), full(), behind(payload("")), behind(payload(strings.Repeat("x", api.MaxPayload))), sized(450), sized(599), sized(api.MaxBundle),
		behind(previous(2), payload("")), behind(age(255), payload("")), behind(hops(24), payload("")), behind(hops(4), age(3), previous(2), payload("")), behind(previous(4), hops(2), age(3), payload("")),
		behind(typed(200, 3, ""), typed(200, 2, ""), payload("")), behind(typed(2, 3, "a"), typed(2, 2, "a"), typed(2, 255, "a"), payload("")), behind(typed(11, 9, "\x00"), typed(8, 7, ""), typed(9, 6, ""), typed(5, 5, ""), payload("")),
	}
	for n := 1; n <= api.MaxBlocks; n++ {
		l = append(l, behind(row(n)...))
	}
	for sum := range 3 {
		b := full()
		b.Primary.Sum, b.Blocks[0].Sum, b.Blocks[4].Sum, b.Blocks[4].Flags = sum, 2-sum, sum, 2
		l = append(l, b)
	}
	return l
}

// wrongPlaces are bundles whose blocks may be, each by itself.
func wrongPlaces() []bundle.Bundle {
	other := payload("hi")
	other.Number = 2
	l := []bundle.Bundle{
		behind(row(api.MaxBlocks)[1:]...), behind(row(9)...), behind(row(10)...), behind(row(255)...), sized(601), sized(602), sized(620), sized(626),
		behind(other), behind(typed(200, 1, "")), behind(typed(200, 2, "")), behind(age(1)), behind(typed(2, 1, "")), behind(previous(1)),
		behind(payload("hi"), age(2)), behind(payload("hi"), typed(200, 2, "")), behind(age(2), payload("hi"), hops(3)), behind(payload("hi"), other), behind(other, payload("hi")), behind(payload("hi"), payload("hi")), behind(other, age(3), payload("hi")),
		behind(typed(200, 1, ""), payload("hi")), behind(age(1), payload("hi")), behind(age(2), typed(200, 1, ""), payload("hi")), behind(typed(200, 1, ""), age(2), other),
		behind(typed(200, 2, ""), typed(201, 2, ""), payload("hi")), behind(age(3), hops(2), previous(3), payload("hi")), behind(typed(200, 9, ""), age(2), hops(3), typed(201, 9, ""), payload("hi")), behind(age(2), typed(200, 255, ""), typed(201, 255, ""), payload("hi")),
		behind(previous(2), previous(3), payload("hi")), behind(age(2), age(3), payload("hi")), behind(hops(2), hops(3), payload("hi")), behind(previous(2), age(3), hops(4), previous(5), payload("hi")), behind(age(2), previous(3), hops(4), typed(200, 6, ""), age(5), payload("hi")), behind(typed(200, 6, ""), hops(4), hops(7), payload("hi")),
		behind(age(2), typed(7, 3, "\x05"), payload("hi")), behind(hops(2), typed(10, 3, "\x82\x05\x01"), payload("hi")), behind(previous(2), typed(6, 3, "\x82\x01\x00"), payload("hi")),
	}
	l[0].Blocks[6] = typed(200, 8, "x") // no payload at all
	return l
}

// wrongs are bundles that may not be.
func wrongs() []bundle.Bundle {
	l := append(wrongPlaces(), bundle.Bundle{}, behind(), bundle.Bundle{Primary: first(), Blocks: []canon.Block{}}, behind(make([]canon.Block, 1)...), behind(make([]canon.Block, 8)...), behind(make([]canon.Block, 100000)...))
	for _, change := range []func(p *primary.Primary){
		func(p *primary.Primary) { p.Flags = 1 }, func(p *primary.Primary) { p.Flags |= 1 << 63 }, func(p *primary.Primary) { p.Sum = 3 }, func(p *primary.Primary) { p.Sum = -1 }, func(p *primary.Primary) { p.Life = most + 1 }, func(p *primary.Primary) { p.Dest = eid.Eid{Ipn: true} }, func(p *primary.Primary) { p.Report = dtn("A", "") }, func(p *primary.Primary) { p.Ident.Source = ipn(0, 1) }, func(p *primary.Primary) { p.Ident.Time = most + 1 }, func(p *primary.Primary) { p.Ident.Seq = math.MaxUint64 },
	} {
		b := full()
		change(&b.Primary)
		l = append(l, b)
	}
	for at := range full().Blocks {
		for _, change := range []func(x *canon.Block){
			func(x *canon.Block) { x.Type = 0 }, func(x *canon.Block) { x.Type = 256 }, func(x *canon.Block) { x.Type += 1 << 32 }, func(x *canon.Block) { x.Number = 0 }, func(x *canon.Block) { x.Number = 256 }, func(x *canon.Block) { x.Number += 1 << 32 }, func(x *canon.Block) { x.Flags = 8 }, func(x *canon.Block) { x.Flags = math.MaxUint64 }, func(x *canon.Block) { x.Sum = 3 }, func(x *canon.Block) { x.Sum = math.MinInt }, func(x *canon.Block) { x.Data = make([]byte, api.MaxPayload+1) }, func(x *canon.Block) { x.Data = make([]byte, 100000) },
		} {
			b := full()
			change(&b.Blocks[at])
			l = append(l, b)
		}
	}
	for at := range 3 {
		for _, data := range []string{"", "\xFF", "\x18\x00", "\x82\x09", "\x82\x00\x00", "\x82\x18\x01\x00", "\x83\x01\x00\x00"} {
			b := full()
			b.Blocks[at].Data = []byte(data)
			l = append(l, b)
		}
	}
	return l
}

func TestRightAndWrite(t *testing.T) {
	for _, b := range rights() {
		if !bundle.Right(b) {
			t.Errorf("Right(%v): false", b)
		}
		w, e := bundle.Write(b)
		if e != api.OK || len(w) != plain(b) || len(w) > api.MaxBundle {
			t.Errorf("Write(%v): %x %v", b, w, e)
		}
		p, _ := primary.Write(b.Primary)
		want, _ := cbor.Write(cbor.List(append([]cbor.Item{p}, blockItems(b)...)...)) // its head has one byte, as has that of a list that is open
		if len(want) != len(w)-1 || w[0] != 0x9F || !bytes.Equal(want[1:], w[1:len(w)-1]) || w[len(w)-1] != 0xFF {
			t.Errorf("Write(%v): %x", b, w)
		}
		if !bundle.Shortest(w) {
			t.Errorf("Shortest(%x): false", w)
		}
	}
	for i, b := range wrongs() {
		if bundle.Right(b) {
			t.Errorf("Right(%d, %.200v): true", i, b)
		}
		if w, e := bundle.Write(b); e != api.ErrForm || len(w) != 0 {
			t.Errorf("Write(%d, %.200v): %x %v", i, b, w, e)
		}
	}
}

func TestSizes(t *testing.T) {
	for n := 450; n <= 626; n++ {
		b := sized(n)
		if plain(b) != n {
			t.Fatalf("there are %d bytes of %d", plain(b), n)
		}
		if got := bundle.Right(b); got != (n <= api.MaxBundle) {
			t.Errorf("Right of %d bytes: %v", n, got)
		}
	}
}

func TestSame(t *testing.T) {
	l := append(rights(), wrongs()...)
	l = append(l, behind(age(2), hops(3)), behind(hops(3), age(2)), behind(age(2)), behind(age(2), age(2)), behind(payload("a")), behind(payload("b")), behind(payload("ab")), bundle.Bundle{Primary: primary.Primary{Sum: -1}}, bundle.Bundle{Blocks: make([]canon.Block, 1)}, bundle.Bundle{Blocks: make([]canon.Block, 2)})
	for _, a := range l {
		for _, b := range l {
			if got := bundle.Same(a, b); got != alike(a, b) {
				t.Errorf("Same(%.300v, %.300v): %v", a, b, got)
			}
		}
		if !bundle.Same(a, copyOf(a)) {
			t.Errorf("Same(%.300v) as itself: false", a)
		}
	}
	for _, change := range []func(b *bundle.Bundle){
		func(b *bundle.Bundle) { b.Primary.Flags = 0 }, func(b *bundle.Bundle) { b.Primary.Sum = 0 }, func(b *bundle.Bundle) { b.Primary.Dest = eid.Eid{} }, func(b *bundle.Bundle) { b.Primary.Report = eid.Eid{} }, func(b *bundle.Bundle) { b.Primary.Ident.Source.Demux = "on" }, func(b *bundle.Bundle) { b.Primary.Ident.Time++ }, func(b *bundle.Bundle) { b.Primary.Ident.Seq++ }, func(b *bundle.Bundle) { b.Primary.Life++ },
		func(b *bundle.Bundle) { b.Blocks[0].Type++ }, func(b *bundle.Bundle) { b.Blocks[1].Number++ }, func(b *bundle.Bundle) { b.Blocks[2].Flags++ }, func(b *bundle.Bundle) { b.Blocks[3].Sum++ }, func(b *bundle.Bundle) { b.Blocks[4].Data[6]++ }, func(b *bundle.Bundle) { b.Blocks[4].Data = b.Blocks[4].Data[:6] }, func(b *bundle.Bundle) { b.Blocks = b.Blocks[:4] }, func(b *bundle.Bundle) { b.Blocks = b.Blocks[1:] }, func(b *bundle.Bundle) { b.Blocks = append(b.Blocks, canon.Block{}) },
	} {
		b := full()
		change(&b)
		if bundle.Same(full(), b) || bundle.Same(b, full()) {
			t.Errorf("Same as %v: true", b)
		}
	}
	if !bundle.Same(behind(), bundle.Bundle{Primary: first(), Blocks: []canon.Block{}}) || !bundle.Same(behind(payload("")), behind(canon.Block{Type: 1, Number: 1})) {
		t.Errorf("nil lists and empty ones differ")
	}
	if !bundle.Same(behind(row(3)[:1]...), behind(typed(200, 2, "x"))) {
		t.Errorf("what lies behind the length is looked at")
	}
}

func TestPayload(t *testing.T) {
	for _, c := range []struct {
		b    bundle.Bundle
		want string
	}{
		{bundle.Bundle{}, ""}, {behind(), ""}, {bundle.Bundle{Blocks: []canon.Block{}}, ""}, {alone(), "hi"}, {full(), "payload"}, {behind(payload("")), ""}, {behind(payload("hi"), typed(200, 2, "no")), "no"}, {behind(canon.Block{Data: []byte("a")}, canon.Block{Data: []byte("b")}), "b"}, {behind(payload("hi"), canon.Block{}), ""},
		{behind(payload(strings.Repeat("x", 1000))), strings.Repeat("x", 1000)}, {behind(row(300)...), "hi"}, {behind(row(3)[:2]...), "x"},
	} {
		before := copyOf(c.b)
		got := bundle.Payload(c.b)
		if string(got) != c.want || cap(got) != len(got) {
			t.Errorf("Payload(%.300v): %q", c.b, got)
		}
		if len(got) > 0 {
			got[0]++
		}
		if !alike(before, c.b) {
			t.Errorf("what was handed out is shared: %.300v", c.b)
		}
	}
	b := behind(payload("abcdef"[:3]))
	room := []byte("abcdef")
	b.Blocks[0].Data = room[:3]
	_ = append(bundle.Payload(b), 'x')
	if string(room) != "abcdef" || string(bundle.Payload(b)) != "abc" {
		t.Errorf("what lies behind the length is written: %s", room)
	}
}

func TestFind(t *testing.T) {
	many := behind(typed(200, 2, "a"), age(3), typed(200, 4, "b"), typed(0, 5, "c"), typed(math.MaxUint64, 6, "d"), payload("hi"), typed(1, 7, "no"))
	for _, c := range []struct {
		b    bundle.Bundle
		kind uint64
		want int
	}{
		{bundle.Bundle{}, 0, -1}, {bundle.Bundle{}, 1, -1}, {behind(), 1, -1}, {alone(), 1, 0}, {alone(), 0, -1}, {alone(), 2, -1}, {alone(), 1<<32 + 1, -1}, {full(), 6, 0}, {full(), 7, 1}, {full(), 10, 2}, {full(), 200, 3}, {full(), 1, 4}, {full(), 2, -1}, {full(), 256, -1}, {full(), 1<<32 + 6, -1}, {full(), math.MaxUint64, -1},
		{many, 200, 0}, {many, 7, 1}, {many, 0, 3}, {many, math.MaxUint64, 4}, {many, 1, 5}, {many, 6, -1}, {behind(row(300)...), 1, 299}, {behind(row(300)...), 200, 0}, {behind(make([]canon.Block, 3)...), 0, 0}, {behind(row(3)[:2]...), 1, -1},
	} {
		before := copyOf(c.b)
		x, ok := bundle.Find(c.b, c.kind)
		if c.want < 0 {
			if ok || !alikeBlocks(x, canon.Block{}) {
				t.Errorf("Find(%.300v, %d): %v %v", c.b, c.kind, x, ok)
			}
			continue
		}
		if !ok || !alikeBlocks(x, c.b.Blocks[c.want]) || cap(x.Data) != len(x.Data) {
			t.Errorf("Find(%.300v, %d): %v %v", c.b, c.kind, x, ok)
		}
		if len(x.Data) > 0 {
			x.Data[0]++
		}
		if !alike(before, c.b) {
			t.Errorf("what was handed out is shared: %.300v", c.b)
		}
	}
}

func TestWriteKeepsItsBundle(t *testing.T) {
	room := append(full().Blocks, typed(99, 99, "behind"))
	b := bundle.Bundle{Primary: first(), Blocks: room[:5]}
	before := copyOf(bundle.Bundle{Primary: first(), Blocks: room})
	w, _ := bundle.Write(b)
	again, _ := bundle.Write(b)
	for i := range w {
		w[i] = '?'
	}
	if hex.EncodeToString(again) != fullBytes || !alike(before, bundle.Bundle{Primary: b.Primary, Blocks: room}) {
		t.Errorf("what was handed out is shared: %x, %v", again, b)
	}
}
