package cbor

import (
	"slices"
	"unicode/utf8"

	"pigeonloft/api"
	"pigeonloft/head"
)

// reader goes through the bytes of one item. Its methods panic with the error of the first fault.
type reader struct {
	b    []byte
	at   int
	left int // how many items may still begin
}

// Read reads an item.
func Read(b []byte, at int) (x Item, next int, e api.Errno) {
	defer func() {
		e, _ = recover().(api.Errno)
	}()
	r := &reader{b: b, at: at, left: api.MaxItems}
	x = r.item(r.head(), 1)
	return x, r.at, api.OK
}

// head reads the next head. The first one's error is that of a place outside the bytes, too.
func (r *reader) head() head.Head {
	h, next, e := head.Read(r.b, r.at)
	if e != api.OK {
		panic(e)
	}
	r.at = next
	return h
}

// ends tells whether a head is no item's, but the end of something open.
func ends(h head.Head) bool {
	return h == head.Head{Major: 7, Open: true}
}

// item is the item of a head that was read.
func (r *reader) item(h head.Head, deep int) Item {
	switch h.Major {
	case number, octets, text, list:
	default:
		panic(api.ErrForm)
	}
	if deep > api.MaxDeep {
		panic(api.ErrDeep)
	}
	if r.left == 0 {
		panic(api.ErrLong)
	}
	r.left--
	switch h.Major {
	case number:
		return Num(h.N)
	case list:
		return Item{Kind: list, L: slices.Clip(r.list(h, deep))}
	}
	return Item{Kind: h.Major, B: slices.Clip(r.bytes(h))}
}

func (r *reader) list(h head.Head, deep int) []Item {
	var l []Item
	if h.Open {
		for p := r.head(); !ends(p); p = r.head() {
			l = append(l, r.item(p, deep+1))
		}
		return l
	}
	r.need(h.N) // each item has a byte at least
	for range h.N {
		l = append(l, r.item(r.head(), deep+1))
	}
	return l
}

func (r *reader) bytes(h head.Head) []byte {
	if !h.Open {
		return r.piece(nil, h)
	}
	var b []byte
	for p := r.head(); !ends(p); p = r.head() {
		if p.Open || p.Major != h.Major {
			panic(api.ErrForm)
		}
		b = r.piece(b, p)
	}
	return b
}

// piece appends the bytes of a head that was read. A text's are looked at by themselves, as a piece of an open text must be a text, too.
func (r *reader) piece(b []byte, h head.Head) []byte {
	r.need(h.N)
	p := r.b[r.at : r.at+int(h.N)]
	if h.Major == text && !utf8.Valid(p) {
		panic(api.ErrForm)
	}
	r.at += len(p)
	return append(b, p...)
}

func (r *reader) need(n uint64) {
	if n > uint64(len(r.b)-r.at) {
		panic(api.ErrShort)
	}
}
