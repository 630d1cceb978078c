package canon

import (
	"pigeonloft/api"
	"pigeonloft/cbor"
	"pigeonloft/eid"
)

// rightData tells whether a block's data are what its type asks for.
func rightData(b Block) bool {
	ok := true
	switch b.Type {
	case Previous:
		_, ok = name(b.Data)
	case Age:
		_, ok = age(b.Data)
	case Hops:
		_, _, ok = hops(b.Data)
	}
	return ok
}

// item is the item that data are the shortest bytes of, if there is one.
func item(data []byte) (cbor.Item, bool) {
	x, _, _ := cbor.Read(data, 0)
	return x, cbor.Shortest(data)
}

// name is the name that data say, if they say one.
func name(data []byte) (eid.Eid, bool) {
	x, ok := item(data)
	n, e := eid.Read(x)
	return n, ok && e == api.OK
}

// age is the age that data say, if they say one.
func age(data []byte) (uint64, bool) {
	x, ok := item(data)
	return x.N, ok && cbor.Same(x, cbor.Num(x.N)) && x.N <= api.MaxTime
}

// hops are the limit and the count that data say, if they say them.
func hops(data []byte) (limit, count uint64, ok bool) {
	x, ok := item(data)
	if len(x.L) != 2 {
		return 0, 0, false
	}
	limit, count = x.L[0].N, x.L[1].N
	return limit, count, ok && cbor.Same(x, cbor.List(numbers(limit, count)...)) && fromOne(limit) && count <= limit
}

// made is a block whose data say an item.
func made(kind, number uint64, sum int, x cbor.Item) (Block, api.Errno) {
	data, _ := cbor.Write(x) // where the item may not be there are none, which no block of these types may have
	b := Block{Type: kind, Number: number, Sum: sum, Data: data}
	if !Right(b) {
		return Block{}, api.ErrForm
	}
	return b, api.OK
}

// OfPrevious is a block of a name.
func OfPrevious(number uint64, sum int, e eid.Eid) (Block, api.Errno) {
	x, _ := eid.Write(e) // where the name may not be it is the number 0, which is no name's item
	return made(Previous, number, sum, x)
}

// OfAge is a block of an age.
func OfAge(number uint64, sum int, age uint64) (Block, api.Errno) {
	return made(Age, number, sum, cbor.Num(age))
}

// OfHops is a block of a limit and a count.
func OfHops(number uint64, sum int, limit, count uint64) (Block, api.Errno) {
	return made(Hops, number, sum, cbor.List(numbers(limit, count)...))
}

// fault is why a block's data say nothing of a type.
func fault(b Block, kind uint64) api.Errno {
	switch {
	case b.Type != kind:
		return api.ErrNone
	case !Right(b):
		return api.ErrForm
	}
	return api.OK
}

// PreviousOf is the name that a block says.
func PreviousOf(b Block) (eid.Eid, api.Errno) {
	if e := fault(b, Previous); e != api.OK {
		return eid.Eid{}, e
	}
	n, _ := name(b.Data)
	return n, api.OK
}

// AgeOf is the age that a block says.
func AgeOf(b Block) (uint64, api.Errno) {
	if e := fault(b, Age); e != api.OK {
		return 0, e
	}
	n, _ := age(b.Data)
	return n, api.OK
}

// HopsOf is the limit and the count that a block says.
func HopsOf(b Block) (uint64, uint64, api.Errno) {
	if e := fault(b, Hops); e != api.OK {
		return 0, 0, e
	}
	limit, count, _ := hops(b.Data)
	return limit, count, api.OK
}
