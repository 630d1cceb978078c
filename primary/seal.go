package primary

import (
	"slices"

	"pigeonloft/api"
	"pigeonloft/cbor"
	"pigeonloft/sums"
)

// The kinds of items that are looked at by themselves.
const (
	octets = 2
	list   = 4
)

// shortSum is the type of the short sum; that of none is ahead of it, that of the long one behind it.
const shortSum = 1

// sumSizes are how many bytes the sum of each type has.
var sumSizes = [...]int{0, 2, 4}

// sumSize is how many bytes the sum has of the type that the item at a place says, if it says one.
func sumSize(l []cbor.Item, at int) (int, bool) {
	x := l[at]
	if x.N >= uint64(len(sumSizes)) || !cbor.Same(x, cbor.Num(x.N)) {
		return 0, false
	}
	return sumSizes[x.N], true
}

// Seal seals items.
func Seal(l []cbor.Item, at int) (cbor.Item, api.Errno) {
	if at < 0 || at >= len(l) {
		return cbor.Item{}, api.ErrArg
	}
	size, ok := sumSize(l, at)
	if !ok {
		return cbor.Item{}, api.ErrForm
	}
	x := cbor.Item{Kind: list, L: blank(l, size)}
	b, e := cbor.Write(x) // it may not be, either, if one of l may not
	if e != api.OK {
		return cbor.Item{}, e
	}
	x = cbor.List(x.L...)
	if size > 0 {
		fill(x.L[len(l)].B, b)
	}
	return x, api.OK
}

// blank is items, and behind them noughts where a sum will stand.
func blank(l []cbor.Item, size int) []cbor.Item {
	if size == 0 {
		return l
	}
	return append(slices.Clip(l), cbor.Bytes(make([]byte, size))) // clipped: what lies behind l isn't ours
}

// fill lets a place have the sum of bytes, of the type that has as many bytes as the place.
func fill(place, b []byte) {
	sum := sums.Long(b)
	if len(place) == sumSizes[shortSum] {
		sum = uint32(sums.Short(b))
	}
	for i := range place {
		place[len(place)-1-i] = byte(sum >> (8 * i))
	}
}

// Open is the items of a sealed list.
func Open(x cbor.Item, at int) ([]cbor.Item, api.Errno) {
	if !cbor.Right(x) || at < 0 || at >= len(x.L) { // what is no list has no place either
		return nil, api.ErrForm
	}
	size, ok := sumSize(x.L, at)
	if !ok {
		return nil, api.ErrForm
	}
	n := len(x.L)
	if size > 0 {
		n--
		if sum := x.L[n]; sum.Kind != octets || len(sum.B) != size { // the type is a number: bytes stand behind it
			return nil, api.ErrForm
		}
	}
	sealed, _ := Seal(x.L[:n], at)
	if !cbor.Same(sealed, x) { // all but the sum is x's own
		return nil, api.ErrSum
	}
	return slices.Clip(sealed.L[:n]), api.OK
}
