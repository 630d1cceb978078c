package eid_test

import (
	"math"
	"math/rand"
	"slices"
	"strings"
	"testing"

	"pigeonloft/api"
	"pigeonloft/cbor"
	"pigeonloft/eid"
)

func ipn(node, service uint64) eid.Eid { return eid.Eid{Ipn: true, Node: node, Service: service} }

func dtn(host, demux string) eid.Eid { return eid.Eid{Host: host, Demux: demux} }

func numbers(node, service uint64) cbor.Item {
	return cbor.List(cbor.Num(2), cbor.List(cbor.Num(node), cbor.Num(service)))
}

func texts(s string) cbor.Item { return cbor.List(cbor.Num(1), cbor.Text(s)) }

const (
	letters  = "abcdefghijklmnopqrstuvwxyz0123456789-"
	sixteen  = "abcdefghijklmn-9"
	twenty4  = "abcdefgh/0123456789-//zz"
	greatest = 1<<32 - 1
)

// rights are names that may be, in their order, with their texts and items.
func rights() []struct {
	x    eid.Eid
	text string
	item cbor.Item
} {
	return []struct {
		x    eid.Eid
		text string
		item cbor.Item
	}{
		{eid.Eid{}, "dtn:none", cbor.List(cbor.Num(1), cbor.Num(0))},
		{ipn(1, 0), "ipn:1.0", numbers(1, 0)},
		{ipn(1, 1), "ipn:1.1", numbers(1, 1)},
		{ipn(1, 10), "ipn:1.10", numbers(1, 10)},
		{ipn(1, greatest), "ipn:1.4294967295", numbers(1, greatest)},
		{ipn(2, 0), "ipn:2.0", numbers(2, 0)},
		{ipn(7, 1), "ipn:7.1", numbers(7, 1)},
		{ipn(10, 9), "ipn:10.9", numbers(10, 9)},
		{ipn(greatest, 0), "ipn:4294967295.0", numbers(greatest, 0)},
		{ipn(greatest, greatest), "ipn:4294967295.4294967295", numbers(greatest, greatest)},
		{dtn("-", ""), "dtn://-/", texts("//-/")},
		{dtn("0", "/"), "dtn://0//", texts("//0//")},
		{dtn("a", ""), "dtn://a/", texts("//a/")},
		{dtn("a", "-"), "dtn://a/-", texts("//a/-")},
		{dtn("a", "/b"), "dtn://a//b", texts("//a//b")},
		{dtn("a", twenty4), "dtn://a/" + twenty4, texts("//a/" + twenty4)},
		{dtn("a", "b"), "dtn://a/b", texts("//a/b")},
		{dtn("a", "b/"), "dtn://a/b/", texts("//a/b/")},
		{dtn("a-", ""), "dtn://a-/", texts("//a-/")},
		{dtn("aa", ""), "dtn://aa/", texts("//aa/")},
		{dtn(sixteen, "in"), "dtn://" + sixteen + "/in", texts("//" + sixteen + "/in")},
		{dtn("loft", "in"), "dtn://loft/in", texts("//loft/in")},
		{dtn("none", ""), "dtn://none/", texts("//none/")},
	}
}

// wrongs are names that may not be.
func wrongs() []eid.Eid {
	l := []eid.Eid{
		{Ipn: true}, ipn(0, 1), ipn(1<<32, 0), ipn(1, 1<<32), ipn(math.MaxUint64, 0), ipn(1, math.MaxUint64), ipn(1<<32+1, 1), ipn(0, greatest),
		{Ipn: true, Node: 7, Service: 1, Host: "a"}, {Ipn: true, Node: 7, Service: 1, Demux: "a"}, {Ipn: true, Host: "a"}, {Ipn: true, Demux: "a"},
		{Node: 1}, {Service: 1}, {Node: 7, Service: 1}, {Node: 1, Host: "a"}, {Service: 1, Host: "a"}, {Service: 1, Host: "a", Demux: "b"},
		dtn("", "a"), dtn("", "/"), dtn(sixteen+"a", ""), dtn(sixteen+"a", "in"), dtn("a", twenty4+"a"), dtn(strings.Repeat("a", 100000), ""), dtn("a", strings.Repeat("a", 100000)),
		dtn("a/b", "c"), dtn("/", ""), dtn("/a", "b"), dtn("a/", "b"), dtn("aß", ""), dtn("a", "ß"), dtn("\xFF", ""), dtn("a", "\xFF"), dtn("a\x00", ""), dtn("é", "in"), dtn("ａ", "in"), dtn("a", "\ufffd"),
	}
	for c := range 256 {
		s := string([]byte{byte(c)})
		if !strings.Contains(letters, s) {
			l = append(l, dtn(s, ""), dtn("a"+s, ""), dtn(s+"a", "in"))
		}
		if !strings.Contains(letters+"/", s) {
			l = append(l, dtn("a", s), dtn("a", "b"+s), dtn("a", s+"b"))
		}
	}
	return l
}

func TestRight(t *testing.T) {
	for _, c := range rights() {
		if !eid.Right(c.x) {
			t.Errorf("Right(%v): false", c.x)
		}
	}
	for _, c := range letters {
		if !eid.Right(dtn(string(c), "")) || !eid.Right(dtn("a"+string(c), string(c)+"a")) {
			t.Errorf("Right with %c: false", c)
		}
	}
	for _, x := range wrongs() {
		if eid.Right(x) {
			t.Errorf("Right(%.50v): true", x)
		}
	}
}

func TestTextAndWrite(t *testing.T) {
	for _, c := range rights() {
		if s, e := eid.Text(c.x); e != api.OK || s != c.text {
			t.Errorf("Text(%v): %q %v", c.x, s, e)
		}
		if y, e := eid.Write(c.x); e != api.OK || !cbor.Same(y, c.item) || !cbor.Right(y) {
			t.Errorf("Write(%v): %v %v", c.x, y, e)
		}
	}
	for _, x := range wrongs() {
		if s, e := eid.Text(x); e != api.ErrForm || s != "" {
			t.Errorf("Text(%.50v): %q %v", x, s, e)
		}
		if y, e := eid.Write(x); e != api.ErrForm || !cbor.Same(y, cbor.Item{}) {
			t.Errorf("Write(%.50v): %v %v", x, y, e)
		}
	}
}

func TestParse(t *testing.T) {
	for _, c := range rights() {
		if x, e := eid.Parse(c.text); e != api.OK || x != c.x {
			t.Errorf("Parse(%q): %v %v", c.text, x, e)
		}
	}
	for _, s := range []string{
		"", "dtn", "dtn:", "none", "dtn:non", "dtn:none/", "dtn:none ", " dtn:none", "DTN:none", "dtn:None", "dtn:NONE", "dtn:nonee", "dtn:none\x00", "dtn:none.0", "dtn:0", "//none",
		"ipn", "ipn:", "ipn:.", "ipn:7", "ipn:7.", "ipn:.1", "ipn:0.0", "ipn:0.1", "ipn:07.1", "ipn:7.01", "ipn:7.00", "ipn:00.1", "ipn:+7.1", "ipn:7.+1", "ipn:-7.1", "ipn:7.-1", "ipn:7.-0", "ipn: 7.1", "ipn:7. 1", "ipn:7.1 ", "ipn:7 .1",
		"ipn:7.1.", "ipn:7.1.1", "ipn:7..1", "ipn:7,1", "ipn:7:1", "ipn:a.1", "ipn:7.a", "ipn:0x7.1", "ipn:7.0x1", "ipn:1_0.1", "ipn:7.1_0", "ipn:7e1.1", "ipn:4294967296.1", "ipn:7.4294967296", "ipn:18446744073709551617.1", "ipn:7.18446744073709551616", "ipn:7.99999999999999999999999",
		"IPN:7.1", "Ipn:7.1", "ipn//7.1", "ipn://7.1", "ipn:7.1\n", "ipn:٧.1", "ipn:7.1/", "pn:7.1", "xipn:7.1", "7.1", "dtn:7.1", "ipn:none", "ipn:a/b", "ipn://a/b",
		"dtn:/", "dtn://", "dtn:///", "dtn:///a", "dtn:////", "dtn://a", "dtn:a/b", "dtn:/a/b", "dtn:///a/b", "dtn//a/b", "//a/b", "dtn://A/b", "dtn://a/B", "dtn://a b/c", "dtn://a/b c", "dtn://a.b/c", "dtn://a/b.c", "dtn://a/b_c", "dtn://a_/b", "dtn://a:1/b", "dtn://a/~b", "dtn://a/?", "dtn://a/#", "dtn://a/%20",
		"dtn://a/ß", "dtn://ß/a", "dtn://a/\xFF", "dtn://\xFF/a", "dtn://" + sixteen + "a/", "dtn://a/" + twenty4 + "a", "dtn://" + sixteen, "dtn://" + sixteen + "abcdefgh/in", "DTN://a/b", "Dtn://a/b", "http://a/b", "dtn://a/b\n", " dtn://a/b", "dtn:// a/b",
		strings.Repeat("a", 1<<16), "dtn://" + strings.Repeat("a", 1<<16) + "/", "dtn://a/" + strings.Repeat("/", 1<<16), "ipn:" + strings.Repeat("1", 1<<16) + ".1", "ipn:" + strings.Repeat(".", 1<<16),
	} {
		if x, e := eid.Parse(s); e != api.ErrForm || x != (eid.Eid{}) {
			t.Errorf("Parse(%.50q): %v %v", s, x, e)
		}
	}
}

func TestRead(t *testing.T) {
	for _, c := range rights() {
		if x, e := eid.Read(c.item); e != api.OK || x != c.x {
			t.Errorf("Read(%v): %v %v", c.item, x, e)
		}
	}
	one, two := cbor.Num(1), cbor.Num(2)
	self := make([]cbor.Item, 2)
	self[0], self[1] = one, cbor.Item{Kind: 4, L: self}
	dirty := func(change func(x *cbor.Item)) cbor.Item {
		x := numbers(7, 1)
		change(&x)
		return x
	}
	for i, x := range []cbor.Item{
		{}, one, cbor.Num(0), cbor.Bytes(nil), cbor.Text(""), cbor.Text("//a/b"), cbor.Text("dtn:none"), cbor.List(),
		cbor.List(one), cbor.List(two), cbor.List(one, cbor.Num(0), cbor.Num(0)), cbor.List(cbor.Num(0), one), cbor.List(one, one), cbor.List(one, two), cbor.List(two, cbor.Num(0)), cbor.List(cbor.Num(0), cbor.Num(0)), cbor.List(cbor.Num(3), cbor.Num(0)), cbor.List(one, cbor.Num(math.MaxUint64)),
		cbor.List(one, cbor.Text("none")), cbor.List(one, cbor.Text("")), cbor.List(one, cbor.Bytes(nil)), cbor.List(one, cbor.List()), cbor.List(cbor.Text("dtn"), cbor.Num(0)), cbor.List(cbor.Bytes([]byte{1}), cbor.Num(0)), cbor.List(cbor.Text(""), cbor.Num(0)),
		numbers(0, 0), numbers(0, 1), numbers(1<<32, 0), numbers(1, 1<<32), numbers(math.MaxUint64, math.MaxUint64),
		cbor.List(one, cbor.List(cbor.Num(7), one)), cbor.List(cbor.Num(3), cbor.List(cbor.Num(7), one)), cbor.List(cbor.Num(0), cbor.List(cbor.Num(7), one)), cbor.List(two, cbor.List(cbor.Num(7))), cbor.List(two, cbor.List(cbor.Num(7), one, one)), cbor.List(two, cbor.List(cbor.Num(7), one), one), cbor.List(two, cbor.Num(7), one), cbor.List(two, cbor.Text("7.1")), cbor.List(two, cbor.List(cbor.Text("7"), one)), cbor.List(two, cbor.List(cbor.Num(7), cbor.Bytes([]byte{1}))), cbor.List(two, cbor.List(cbor.Num(7), cbor.List())),
		cbor.List(two, cbor.Text("//a/b")), cbor.List(cbor.Num(0), cbor.Text("//a/b")), cbor.List(one, cbor.Bytes([]byte("//a/b"))), cbor.List(cbor.Text("//a/b"), one), cbor.List(one, cbor.Text("//a/b"), one), cbor.List(one, cbor.List(cbor.Text("//a/b"))), cbor.List(cbor.List(one, cbor.Text("//a/b"))),
		texts("//a"), texts("a/b"), texts("/a/b"), texts("///b"), texts("//A/b"), texts("//a/B"), texts("//a/b c"), texts("dtn://a/b"), texts("//" + sixteen + "a/"), texts("//a/" + twenty4 + "a"), texts("//a/\xFF"), texts("//\xFF/a"), texts("//ß/a"), texts("//"), texts("/"), texts("//a/" + strings.Repeat("a", 1<<16)),
		dirty(func(x *cbor.Item) { x.N = 1 }), dirty(func(x *cbor.Item) { x.B = []byte{1} }), dirty(func(x *cbor.Item) { x.Kind = 3 }), dirty(func(x *cbor.Item) { x.Kind = -4 }), dirty(func(x *cbor.Item) { x.L[0].Kind = 2 }), dirty(func(x *cbor.Item) { x.L[0].B = []byte{1} }), dirty(func(x *cbor.Item) { x.L[1].N = 1 }), dirty(func(x *cbor.Item) { x.L[1].Kind = 3 }), dirty(func(x *cbor.Item) { x.L[1].L[0].B = []byte{1} }), dirty(func(x *cbor.Item) { x.L[1].L[1].L = []cbor.Item{{}} }),
		{Kind: 4, L: []cbor.Item{one, {Kind: 3, N: 1, B: []byte("//a/b")}}}, {Kind: 4, L: []cbor.Item{one, {Kind: 3, B: []byte("//a/b"), L: []cbor.Item{one, two}}}}, {Kind: 4, L: []cbor.Item{one, {Kind: 0, B: []byte{1}}}}, {Kind: 4, L: []cbor.Item{{N: 1, L: []cbor.Item{one}}, {}}}, {Kind: 5, L: []cbor.Item{one, {}}}, {Kind: 0, L: []cbor.Item{one, {}}},
		{Kind: 4, L: self}, self[1], {Kind: 4, L: []cbor.Item{two, {Kind: 4, L: self}}},
	} {
		if y, e := eid.Read(x); e != api.ErrForm || y != (eid.Eid{}) {
			t.Errorf("Read of wrong item %d: %v %v", i, y, e)
		}
	}
}

func TestReadReadsNothingBehind(t *testing.T) {
	x := cbor.List(cbor.Num(2), cbor.List(cbor.Num(7), cbor.Num(1), cbor.Num(1)), cbor.Num(9))
	x.L, x.L[1].L = x.L[:2], x.L[1].L[:2]
	if y, e := eid.Read(x); e != api.OK || y != ipn(7, 1) {
		t.Errorf("Read: %v %v", y, e)
	}
	y := texts("//a/bc")
	y.L[1].B = y.L[1].B[:5]
	z, e := eid.Read(y)
	copy(y.L[1].B, "//q/q")
	if e != api.OK || z != dtn("a", "b") {
		t.Errorf("Read: %v %v", z, e)
	}
}

// ordered are names in their order, those that may not be among them.
func ordered() []eid.Eid {
	return []eid.Eid{
		{},
		{Ipn: true}, {Ipn: true, Demux: "z"}, {Ipn: true, Host: "a"}, ipn(0, 1), ipn(1, 0), {Ipn: true, Node: 1, Host: "a"}, ipn(1, 1), ipn(1, 2), {Ipn: true, Node: 1, Service: 2, Demux: "a"}, {Ipn: true, Node: 1, Service: 2, Demux: "b"}, {Ipn: true, Node: 1, Service: 2, Host: "a"},
		ipn(1, math.MaxUint64), ipn(2, 0), ipn(2, 1), ipn(9, 1), ipn(10, 0), ipn(1<<32, 0), ipn(1<<63, 0), ipn(math.MaxUint64, 0),
		dtn("", "\x00"), dtn("", "a"), dtn("\x00", ""), dtn("-", ""), dtn("0", "z"), dtn("A", ""), dtn("a", ""), dtn("a", "-"), dtn("a", "/"), dtn("a", "0"), dtn("a", "a"), dtn("a", "ab"), dtn("a", "b"), dtn("a-", ""), dtn("a/", ""), dtn("aa", ""), dtn("b", ""), dtn("b", "a"), dtn("é", ""), dtn("\xFF", ""),
		{Service: 1}, {Service: 1, Host: "a"}, {Service: 2}, {Node: 1}, {Node: 1, Host: "a"}, {Node: 1, Service: 1}, {Node: 2},
	}
}

func TestLess(t *testing.T) {
	var may []eid.Eid
	for _, c := range rights() {
		may = append(may, c.x)
	}
	for _, l := range [][]eid.Eid{ordered(), may} {
		for i, a := range l {
			for j, b := range l {
				if got := eid.Less(a, b); got != (i < j) {
					t.Errorf("Less(%v, %v): %v", a, b, got)
				}
			}
		}
	}
}

func anyEid(r *rand.Rand) eid.Eid {
	some := func(of string, least, most int) string {
		var s []byte
		for n := least + r.Intn(most-least+1); len(s) < n; {
			s = append(s, of[r.Intn(len(of))])
		}
		return string(s)
	}
	switch r.Intn(3) {
	case 0:
		return eid.Eid{}
	case 1:
		return ipn(max(1, uint64(r.Uint32())>>r.Intn(32)), uint64(r.Uint32())>>r.Intn(32))
	}
	return dtn(some(letters, 1, api.MaxName), some(letters+"/", 0, api.MaxDemux))
}

func TestThereAndBack(t *testing.T) {
	r := rand.New(rand.NewSource(5))
	for range 3000 {
		x := anyEid(r)
		s, e := eid.Text(x)
		if y, f := eid.Parse(s); e != api.OK || f != api.OK || y != x {
			t.Fatalf("Parse(%q): %v %v, want %v", s, y, f, x)
		}
		i, e := eid.Write(x)
		if y, f := eid.Read(i); e != api.OK || f != api.OK || y != x {
			t.Fatalf("Read(%v): %v %v, want %v", i, y, f, x)
		}
		y := anyEid(r)
		if x != y && eid.Less(x, y) == eid.Less(y, x) || x == y && eid.Less(x, y) {
			t.Fatalf("Less(%v, %v)", x, y)
		}
	}
}

// What is read is written as it was: there is one way alone.
func TestOneWayAlone(t *testing.T) {
	r := rand.New(rand.NewSource(6))
	parsed := 0
	for range 300000 {
		s, _ := eid.Text(anyEid(r))
		b := []byte(s)
		switch i := r.Intn(len(b)); r.Intn(3) {
		case 0:
			b[i] = "0123456789.:/-adintpoez +"[r.Intn(25)]
		case 1:
			b = slices.Delete(b, i, i+1)
		case 2:
			b = slices.Insert(b, i, "0123456789.:/-adintpoez +"[r.Intn(25)])
		}
		x, e := eid.Parse(string(b))
		if e != api.OK {
			if e != api.ErrForm || x != (eid.Eid{}) {
				t.Fatalf("Parse(%q): %v %v", b, x, e)
			}
			continue
		}
		parsed++
		if again, e := eid.Text(x); e != api.OK || again != string(b) || !eid.Right(x) {
			t.Fatalf("Parse(%q): %v, whose text is %q %v", b, x, again, e)
		}
	}
	if parsed < 1000 {
		t.Errorf("only %d were names", parsed)
	}
}
