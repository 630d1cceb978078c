package ident_test

import (
	"encoding/hex"
	"math"
	"math/rand"
	"strings"
	"testing"

	"pigeonloft/api"
	"pigeonloft/cbor"
	"pigeonloft/eid"
	"pigeonloft/ident"
)

const most = api.MaxTime

func ipn(node, service uint64) eid.Eid { return eid.Eid{Ipn: true, Node: node, Service: service} }

func dtn(host, demux string) eid.Eid { return eid.Eid{Host: host, Demux: demux} }

func number(source eid.Eid, time, seq uint64) ident.Ident {
	return ident.Ident{Source: source, Time: time, Seq: seq}
}

// item is the item of a number whose source's item is name.
func item(name cbor.Item, time, seq uint64) cbor.Item {
	return cbor.List(name, cbor.List(cbor.Num(time), cbor.Num(seq)))
}

var (
	noneItem = cbor.List(cbor.Num(1), cbor.Num(0))
	ipnItem  = cbor.List(cbor.Num(2), cbor.List(cbor.Num(7), cbor.Num(1)))
	dtnItem  = cbor.List(cbor.Num(1), cbor.Text("//loft/in"))
)

// rights are numbers that may be, with their texts and items.
func rights() []struct {
	x    ident.Ident
	text string
	item cbor.Item
} {
	return []struct {
		x    ident.Ident
		text string
		item cbor.Item
	}{
		{ident.Ident{}, "dtn:none-0-0", item(noneItem, 0, 0)},
		{number(eid.Eid{}, 1, 2), "dtn:none-1-2", item(noneItem, 1, 2)},
		{number(ipn(7, 1), 0, 0), "ipn:7.1-0-0", item(ipnItem, 0, 0)},
		{number(ipn(7, 1), 5, 2), "ipn:7.1-5-2", item(ipnItem, 5, 2)},
		{number(ipn(7, 1), 10, 0), "ipn:7.1-10-0", item(ipnItem, 10, 0)},
		{number(dtn("loft", "in"), 0, 10), "dtn://loft/in-0-10", item(dtnItem, 0, 10)},
		{number(dtn("-", "-"), 1, 1), "dtn://-/--1-1", item(cbor.List(cbor.Num(1), cbor.Text("//-/-")), 1, 1)},
		{number(dtn("a", ""), 1<<32, 1), "dtn://a/-4294967296-1", item(cbor.List(cbor.Num(1), cbor.Text("//a/")), 1<<32, 1)},
		{number(ipn(7, 1), most, 0), "ipn:7.1-1099511627776-0", item(ipnItem, most, 0)},
		{number(ipn(7, 1), 0, most), "ipn:7.1-0-1099511627776", item(ipnItem, 0, most)},
		{number(dtn("loft", "in"), most, most), "dtn://loft/in-1099511627776-1099511627776", item(dtnItem, most, most)},
		{number(eid.Eid{}, most, most-1), "dtn:none-1099511627776-1099511627775", item(noneItem, most, most-1)},
	}
}

// wrongNames are sources that may not be.
func wrongNames() []eid.Eid {
	return []eid.Eid{
		{Ipn: true}, ipn(0, 1), ipn(1<<32, 1), ipn(1, 1<<32), {Node: 7, Service: 1}, {Service: 1}, dtn("", "in"), dtn("A", ""), dtn("a", "ß"),
		dtn(strings.Repeat("a", api.MaxName+1), ""), dtn("a", strings.Repeat("a", api.MaxDemux+1)), {Ipn: true, Node: 7, Service: 1, Host: "a"}, {Node: 1, Host: "a"},
	}
}

// wrongs are numbers that may not be.
func wrongs() []ident.Ident {
	l := []ident.Ident{
		number(ipn(7, 1), most+1, 0), number(ipn(7, 1), 0, most+1), number(eid.Eid{}, most+1, most+1), number(dtn("loft", "in"), math.MaxUint64, 0), number(dtn("loft", "in"), 0, math.MaxUint64),
		number(eid.Eid{}, 1<<63, 0), number(eid.Eid{}, 0, 1<<63), number(eid.Eid{}, most+1, 0), number(eid.Eid{}, 0, most+1),
	}
	for _, n := range wrongNames() {
		l = append(l, number(n, 0, 0), number(n, 5, 2), number(n, most+1, most+1))
	}
	return l
}

func TestRight(t *testing.T) {
	for _, c := range rights() {
		if !ident.Right(c.x) {
			t.Errorf("Right(%v): false", c.x)
		}
	}
	for _, x := range wrongs() {
		if ident.Right(x) {
			t.Errorf("Right(%v): true", x)
		}
	}
}

func TestAhead(t *testing.T) {
	ordered := []ident.Ident{
		number(eid.Eid{}, 0, 0), number(ipn(1, 1), 0, 0), number(ipn(7, 1), 0, 0), number(ipn(7, 2), 0, 0), number(dtn("a", ""), 0, 0), number(dtn("a", "b"), 0, 0), number(dtn("b", ""), 0, 0),
		number(eid.Eid{}, 0, 1), number(ipn(7, 1), 0, 1), number(dtn("a", ""), 0, 1), number(eid.Eid{}, 0, 2), number(eid.Eid{}, 0, most), number(dtn("a", ""), 0, most),
		number(eid.Eid{}, 1, 0), number(dtn("a", ""), 1, 0), number(ipn(7, 1), 1, 1), number(ipn(7, 1), 2, 0), number(ipn(7, 1), 5, 9), number(ipn(1, 1), 5, 10), number(ipn(7, 1), 10, 0),
		number(eid.Eid{}, most, 0), number(dtn("z", ""), most, 0), number(eid.Eid{}, most, most), number(dtn("z", ""), most, most),
		number(eid.Eid{}, 1<<63, 0), number(eid.Eid{Ipn: true}, 1<<63, 0), number(eid.Eid{}, 1<<63, 1<<63), number(eid.Eid{}, math.MaxUint64, 0), number(eid.Eid{}, math.MaxUint64, math.MaxUint64), number(dtn("ß", ""), math.MaxUint64, math.MaxUint64),
	}
	for i, a := range ordered {
		for j, b := range ordered {
			if got := ident.Ahead(a, b); got != (i < j) {
				t.Errorf("Ahead(%v, %v): %v", a, b, got)
			}
		}
	}
}

func TestWriteAndText(t *testing.T) {
	for _, c := range rights() {
		if y, e := ident.Write(c.x); e != api.OK || !cbor.Same(y, c.item) || !cbor.Right(y) {
			t.Errorf("Write(%v): %v %v", c.x, y, e)
		}
		if s, e := ident.Text(c.x); e != api.OK || s != c.text {
			t.Errorf("Text(%v): %q %v", c.x, s, e)
		}
	}
	for _, x := range wrongs() {
		if y, e := ident.Write(x); e != api.ErrForm || !cbor.Same(y, cbor.Item{}) {
			t.Errorf("Write(%v): %v %v", x, y, e)
		}
		if s, e := ident.Text(x); e != api.ErrForm || s != "" {
			t.Errorf("Text(%v): %q %v", x, s, e)
		}
	}
}

func TestWrittenBytes(t *testing.T) {
	for _, c := range []struct {
		x    ident.Ident
		want string
	}{
		{ident.Ident{}, "82820100820000"},
		{number(ipn(7, 1), 5, 2), "8282028207018205" + "02"},
		{number(dtn("loft", "in"), 500, most), "828201692f2f6c6f66742f696e821901f41b0000010000000000"},
	} {
		y, e := ident.Write(c.x)
		b, f := cbor.Write(y)
		if e != api.OK || f != api.OK || hex.EncodeToString(b) != c.want {
			t.Errorf("the bytes of %v: %x %v %v", c.x, b, e, f)
		}
	}
}

// wrongItems are items of no number.
func wrongItems() []cbor.Item {
	zero, times := cbor.Num(0), cbor.List(cbor.Num(5), cbor.Num(2))
	self := make([]cbor.Item, 2)
	self[0], self[1] = cbor.Item{Kind: 4, L: self}, cbor.Item{Kind: 4, L: self}
	doubled := cbor.Item{}
	for range 100 {
		doubled = cbor.Item{Kind: 4, L: []cbor.Item{doubled, doubled}}
	}
	l := []cbor.Item{
		{}, zero, cbor.Num(9), cbor.Bytes([]byte{1}), cbor.Text("ipn:7.1-5-2"), cbor.List(), cbor.List(ipnItem), cbor.List(times), ipnItem, dtnItem, noneItem,
		cbor.List(times, ipnItem), cbor.List(ipnItem, times, zero), cbor.List(zero, ipnItem, times), cbor.List(ipnItem, cbor.Num(5), cbor.Num(2)), cbor.List(cbor.List(ipnItem, times)),
		cbor.List(ipnItem, cbor.List()), cbor.List(ipnItem, cbor.List(zero)), cbor.List(ipnItem, cbor.List(zero, zero, zero)), cbor.List(ipnItem, zero), cbor.List(ipnItem, cbor.Text("5-2")), cbor.List(ipnItem, ipnItem), cbor.List(times, times), cbor.List(zero, times), cbor.List(cbor.Text("ipn:7.1"), times), cbor.List(cbor.List(), times),
		cbor.List(ipnItem, cbor.List(cbor.Bytes(nil), zero)), cbor.List(ipnItem, cbor.List(zero, cbor.Text(""))), cbor.List(ipnItem, cbor.List(cbor.List(), zero)), cbor.List(ipnItem, cbor.List(zero, times)), cbor.List(ipnItem, cbor.List(cbor.Bytes([]byte{5}), cbor.Num(2))),
		item(ipnItem, most+1, 0), item(ipnItem, 0, most+1), item(noneItem, most+1, 0), item(dtnItem, math.MaxUint64, math.MaxUint64), item(ipnItem, 1<<63, 0),
		item(cbor.List(cbor.Num(1), cbor.Num(1)), 5, 2), item(cbor.List(cbor.Num(2), cbor.List(zero, zero)), 5, 2), item(cbor.List(cbor.Num(1), cbor.Text("//loft")), 5, 2), item(cbor.List(cbor.Num(1), cbor.Bytes([]byte("//loft/in"))), 5, 2), item(cbor.List(cbor.Num(3), cbor.Num(0)), 5, 2), item(cbor.List(cbor.Num(2), cbor.List(cbor.Num(1<<32), zero)), 0, 0),
		{Kind: 4, L: self}, {Kind: 4, L: []cbor.Item{ipnItem, {Kind: 4, L: self}}}, {Kind: 4, L: []cbor.Item{{Kind: 4, L: self}, times}}, doubled, {Kind: 4, L: []cbor.Item{doubled, times}}, {Kind: 4, L: []cbor.Item{ipnItem, doubled}},
		{Kind: 4, L: make([]cbor.Item, 1000)}, {Kind: 4, L: []cbor.Item{ipnItem, {Kind: 4, L: make([]cbor.Item, 1000)}}},
	}
	for _, change := range []func(x *cbor.Item){
		func(x *cbor.Item) { x.Kind = 3 }, func(x *cbor.Item) { x.Kind = 0 }, func(x *cbor.Item) { x.Kind = -1 }, func(x *cbor.Item) { x.N = 1 }, func(x *cbor.Item) { x.B = []byte{1} },
		func(x *cbor.Item) { x.L[0].Kind = 2 }, func(x *cbor.Item) { x.L[0].N = 1 }, func(x *cbor.Item) { x.L[0].B = []byte{1} }, func(x *cbor.Item) { x.L[0].L[0].N = 1 }, func(x *cbor.Item) { x.L[0].L[0].B = []byte{1} },
		func(x *cbor.Item) { x.L[1].Kind = 0 }, func(x *cbor.Item) { x.L[1].N = 1 }, func(x *cbor.Item) { x.L[1].B = []byte{1} },
		func(x *cbor.Item) { x.L[1].L[0].Kind = 2 }, func(x *cbor.Item) { x.L[1].L[0].B = []byte{1} }, func(x *cbor.Item) { x.L[1].L[0].L = make([]cbor.Item, 1) },
		func(x *cbor.Item) { x.L[1].L[1].Kind = 3 }, func(x *cbor.Item) { x.L[1].L[1].B = []byte{1} }, func(x *cbor.Item) { x.L[1].L[1].L = make([]cbor.Item, 1) },
	} {
		x := item(ipnItem, 5, 2)
		change(&x)
		l = append(l, x)
	}
	return l
}

func TestRead(t *testing.T) {
	for _, c := range rights() {
		if x, e := ident.Read(c.item); e != api.OK || x != c.x {
			t.Errorf("Read(%v): %v %v", c.item, x, e)
		}
	}
	for i, x := range wrongItems() {
		if y, e := ident.Read(x); e != api.ErrForm || y != (ident.Ident{}) {
			t.Errorf("Read of wrong item %d: %v %v", i, y, e)
		}
	}
}

func TestReadReadsNothingBehind(t *testing.T) {
	x := cbor.List(ipnItem, cbor.List(cbor.Num(5), cbor.Num(2), cbor.Num(9)), cbor.Num(9))
	x.L, x.L[1].L = x.L[:2], x.L[1].L[:2]
	if y, e := ident.Read(x); e != api.OK || y != number(ipn(7, 1), 5, 2) {
		t.Errorf("Read: %v %v", y, e)
	}
	if x.L[:3][2].N != 9 || x.L[1].L[:3][2].N != 9 {
		t.Errorf("what lies behind was written: %v", x)
	}
}

func TestItemsShareNothing(t *testing.T) {
	x := number(dtn("loft", "in"), 5, 2)
	a, _ := ident.Write(x)
	b, _ := ident.Write(x)
	a.L[0].L[1].B[2], a.L[1].L[0].N = 'x', 9
	if !cbor.Same(b, item(dtnItem, 5, 2)) {
		t.Errorf("the other one is changed: %v", b)
	}
	y, e := ident.Read(b)
	b.L[0].L[1].B[2] = 'x'
	if e != api.OK || y != x {
		t.Errorf("Read: %v %v", y, e)
	}
}

func anyName(r *rand.Rand) eid.Eid {
	switch r.Intn(3) {
	case 0:
		return eid.Eid{}
	case 1:
		return ipn(max(1, uint64(r.Uint32())>>r.Intn(32)), uint64(r.Uint32())>>r.Intn(32))
	}
	return dtn("loft-7"[r.Intn(6):], "in/3-4"[r.Intn(7):])
}

func anyTime(r *rand.Rand) uint64 {
	return min(most, r.Uint64()>>(23+r.Intn(41)))
}

func TestThereAndBack(t *testing.T) {
	r := rand.New(rand.NewSource(1))
	for range 5000 {
		x := number(anyName(r), anyTime(r), anyTime(r))
		y, e := ident.Write(x)
		if z, f := ident.Read(y); e != api.OK || f != api.OK || z != x {
			t.Fatalf("Read(%v): %v %v, want %v", y, z, f, x)
		}
		b, _ := cbor.Write(y)
		y, _, e = cbor.Read(b, 0)
		if z, f := ident.Read(y); e != api.OK || f != api.OK || z != x {
			t.Fatalf("Read of the bytes %x: %v %v, want %v", b, z, f, x)
		}
	}
}

// What is read is written as it was: there is one way alone.
func TestOneWayAlone(t *testing.T) {
	r := rand.New(rand.NewSource(2))
	read := 0
	for range 200000 {
		x, _ := ident.Write(number(anyName(r), anyTime(r), anyTime(r)))
		b, _ := cbor.Write(x)
		b[r.Intn(len(b))] ^= 1 << r.Intn(8)
		x, _, e := cbor.Read(b, 0)
		if e != api.OK {
			continue
		}
		y, e := ident.Read(x)
		if e != api.OK {
			if e != api.ErrForm || y != (ident.Ident{}) {
				t.Fatalf("Read(%v): %v %v", x, y, e)
			}
			continue
		}
		read++
		if again, e := ident.Write(y); e != api.OK || !cbor.Same(again, x) || !ident.Right(y) {
			t.Fatalf("Read(%v): %v, whose item is %v %v", x, y, again, e)
		}
	}
	if read < 1000 {
		t.Errorf("only %d were numbers", read)
	}
}

func made(t *testing.T, source eid.Eid) *ident.Maker {
	m, e := ident.New(source)
	if e != api.OK || m == nil {
		t.Fatalf("New(%v): %v", source, e)
	}
	return m
}

func next(t *testing.T, m *ident.Maker, now uint64, want ident.Ident) {
	t.Helper()
	if x, e := m.Next(now); e != api.OK || x != want {
		t.Errorf("Next(%d): %v %v, want %v", now, x, e, want)
	}
	last(t, m, want)
}

// last asks for the last number, and for its parts, which are the maker's.
func last(t *testing.T, m *ident.Maker, want ident.Ident) {
	t.Helper()
	if x := m.Last(); x != want {
		t.Errorf("Last: %v, want %v", x, want)
	}
	if x := number(m.Source, m.Time, m.Seq); x != want {
		t.Errorf("the maker's parts: %v, want %v", x, want)
	}
}

func refused(t *testing.T, m *ident.Maker, now uint64, want api.Errno) {
	t.Helper()
	before := m.Last()
	if x, e := m.Next(now); e != want || x != (ident.Ident{}) {
		t.Errorf("Next(%d): %v %v, want %v", now, x, e, want)
	}
	last(t, m, before)
}

func keep(t *testing.T, m *ident.Maker, x ident.Ident, want api.Errno) {
	t.Helper()
	after := m.Last()
	if want == api.OK {
		after = x
	}
	if e := m.Keep(x); e != want {
		t.Errorf("Keep(%v): %v, want %v", x, e, want)
	}
	last(t, m, after)
}

func TestNew(t *testing.T) {
	for _, n := range []eid.Eid{ipn(7, 0), ipn(7, 1), ipn(1<<32-1, 1<<32-1), dtn("loft", ""), dtn("loft", "in")} {
		last(t, made(t, n), number(n, 0, 0))
	}
	for _, n := range append(wrongNames(), eid.Eid{}) {
		if m, e := ident.New(n); e != api.ErrForm || m != nil {
			t.Errorf("New(%v): %v %v", n, m, e)
		}
	}
}

func TestNext(t *testing.T) {
	self := ipn(7, 1)
	m := made(t, self)
	for _, c := range []struct{ now, time, seq uint64 }{
		{0, 0, 1}, {0, 0, 2}, {5, 5, 0}, {5, 5, 1}, {3, 5, 2}, {0, 5, 3}, {5, 5, 4}, {6, 6, 0}, {5, 6, 1}, {7, 7, 0}, {1000, 1000, 0}, {most - 1, most - 1, 0}, {most, most, 0}, {most, most, 1}, {0, most, 2}, {most - 1, most, 3},
	} {
		next(t, m, c.now, number(self, c.time, c.seq))
	}
}

func TestNextBeyondTheLimits(t *testing.T) {
	self := dtn("loft", "in")
	m := made(t, self)
	refused(t, m, most+1, api.ErrArg)
	refused(t, m, math.MaxUint64, api.ErrArg)
	next(t, m, 9, number(self, 9, 0))
	refused(t, m, most+1, api.ErrArg)
	keep(t, m, number(self, 9, most-1), api.OK)
	next(t, m, 9, number(self, 9, most))
	refused(t, m, 9, api.ErrFull)
	refused(t, m, 0, api.ErrFull)
	refused(t, m, most+1, api.ErrArg) // of two errors the first one
	refused(t, m, 9, api.ErrFull)
	next(t, m, 10, number(self, 10, 0))
	next(t, m, 9, number(self, 10, 1))
	keep(t, m, number(self, most, most), api.OK)
	refused(t, m, 0, api.ErrFull)
	refused(t, m, most, api.ErrFull)
	refused(t, m, most+1, api.ErrArg)
}

func TestKeep(t *testing.T) {
	self := ipn(7, 1)
	m := made(t, self)
	keep(t, m, number(self, 0, 0), api.ErrState)
	keep(t, m, number(self, 0, 1), api.OK)
	keep(t, m, number(self, 0, 1), api.ErrState)
	keep(t, m, number(self, 0, 0), api.ErrState)
	keep(t, m, number(self, 5, 3), api.OK)
	keep(t, m, number(self, 5, 3), api.ErrState)
	keep(t, m, number(self, 5, 2), api.ErrState)
	keep(t, m, number(self, 4, most), api.ErrState)
	keep(t, m, number(self, 5, 4), api.OK)
	next(t, m, 5, number(self, 5, 5))
	keep(t, m, number(self, 6, 0), api.OK)
	next(t, m, 5, number(self, 6, 1))
	next(t, m, 8, number(self, 8, 0))
	keep(t, m, number(self, 7, 9), api.ErrState)

	for _, n := range append(wrongNames(), eid.Eid{}, ipn(7, 2), ipn(8, 1), dtn("loft", "in")) {
		keep(t, m, number(n, 9, 0), api.ErrArg)
		keep(t, m, number(n, 0, 0), api.ErrArg) // of two errors the first one
	}
	keep(t, m, number(self, most+1, 0), api.ErrArg)
	keep(t, m, number(self, 0, most+1), api.ErrArg)
	keep(t, m, number(self, 9, most+1), api.ErrArg)
	keep(t, m, number(self, math.MaxUint64, math.MaxUint64), api.ErrArg)
	keep(t, m, ident.Ident{}, api.ErrArg)
	keep(t, m, number(self, most, most-1), api.OK)
	keep(t, m, number(self, most, most), api.OK)
	keep(t, m, number(self, most, most), api.ErrState)
}

// noMakers are makers that no call made, some of them with a number of their own.
func noMakers() []*ident.Maker {
	var set ident.Maker
	set.Source, set.Time, set.Seq = ipn(7, 1), 5, 2
	return []*ident.Maker{nil, {}, new(ident.Maker), &set, {Ident: number(ipn(7, 1), 0, 0)}}
}

func TestNoMaker(t *testing.T) {
	for i, m := range noMakers() {
		for range 2 {
			for _, now := range []uint64{0, 5, 6, most, most + 1, math.MaxUint64} {
				if x, e := m.Next(now); e != api.ErrNil || x != (ident.Ident{}) {
					t.Errorf("Next(%d) of no maker %d: %v %v", now, i, x, e)
				}
			}
			for _, x := range append(wrongs(), ident.Ident{}, number(ipn(7, 1), 9, 0), number(ipn(7, 1), 0, 0)) {
				if e := m.Keep(x); e != api.ErrNil {
					t.Errorf("Keep(%v) of no maker %d: %v", x, i, e)
				}
			}
			if x := m.Last(); x != (ident.Ident{}) {
				t.Errorf("Last of no maker %d: %v", i, x)
			}
		}
	}
}

func TestMakersStandAlone(t *testing.T) {
	a, b := made(t, ipn(7, 1)), made(t, ipn(7, 1))
	next(t, a, 5, number(ipn(7, 1), 5, 0))
	last(t, b, number(ipn(7, 1), 0, 0))
	next(t, b, 3, number(ipn(7, 1), 3, 0))
	next(t, a, 4, number(ipn(7, 1), 5, 1))
}

func TestMakersRise(t *testing.T) {
	r := rand.New(rand.NewSource(3))
	for range 200 {
		self := anyName(r)
		if self == (eid.Eid{}) {
			continue
		}
		m := made(t, self)
		told := []ident.Ident{m.Last()}
		for range 100 {
			before, now := m.Last(), anyTime(r)>>r.Intn(40)
			if r.Intn(4) == 0 {
				x := number(self, before.Time+uint64(r.Intn(3))-1, before.Seq+uint64(r.Intn(3))-1)
				want := api.OK
				if !ident.Right(x) {
					want = api.ErrArg
				} else if !ident.Ahead(before, x) {
					want = api.ErrState
				}
				keep(t, m, x, want)
				continue
			}
			x, e := m.Next(now)
			if e != api.OK || !ident.Right(x) || x.Source != self || x.Time != max(now, before.Time) || !ident.Ahead(before, x) {
				t.Fatalf("Next(%d) behind %v: %v %v", now, before, x, e)
			}
			told = append(told, x)
		}
		for i := range told {
			for j := range i {
				if !ident.Ahead(told[j], told[i]) || ident.Ahead(told[i], told[j]) {
					t.Fatalf("they don't rise: %v", told)
				}
			}
		}
	}
}
