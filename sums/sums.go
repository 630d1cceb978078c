// Package sums has two check sums of bytes: layer 1, see shared/doc/01-sums.md.
package sums

import (
	"sync"
	"sync/atomic"
)

// The lowest bit of what there is falls out first, so the polynomials stand turned round.
const (
	shortTurn = 0x8408
	longTurn  = 0x82F63B78
)

// Counter has the long sum by a table, and counts how often it was asked. Its zero value is ready.
type Counter struct {
	made  sync.Once
	steps [256]uint32
	asked atomic.Int64
}

// Short is the short sum.
func Short(b []byte) uint16 {
	s := ^uint16(0)
	for _, x := range b {
		s = shortStep(s ^ uint16(x))
	}
	return ^s
}

// Long is the long sum.
func Long(b []byte) uint32 {
	s := ^uint32(0)
	for _, x := range b {
		s = longStep(s ^ uint32(x))
	}
	return ^s
}

func shortStep(s uint16) uint16 {
	for range 8 {
		out := s & 1
		s >>= 1
		if out == 1 {
			s ^= shortTurn
		}
	}
	return s
}

func longStep(s uint32) uint32 {
	for range 8 {
		out := s & 1
		s >>= 1
		if out == 1 {
			s ^= longTurn
		}
	}
	return s
}

// Long is the long sum. Many may ask at once.
func (c *Counter) Long(b []byte) uint32 {
	if c == nil { // no counter has no table, but the bytes have their sum all the same
		return Long(b)
	}
	c.asked.Add(1)
	c.made.Do(c.fill)
	s := ^uint32(0)
	for _, x := range b {
		s = s>>8 ^ c.steps[byte(s)^x]
	}
	return ^s
}

// Asked is how often the counter was asked.
func (c *Counter) Asked() int64 {
	if c == nil {
		return 0
	}
	return c.asked.Load()
}

// A step is linear, so the upper bits go on by themselves: the lowest eight are all that it takes to know it.
func (c *Counter) fill() {
	for i := range c.steps {
		c.steps[i] = longStep(uint32(i))
	}
}
