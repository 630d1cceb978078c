package sums

import "testing"

// A table that was made again would have its steps back.
func TestTableIsMadeOnce(t *testing.T) {
	c := &Counter{}
	if c.steps != [256]uint32{} {
		t.Error("the table is made ahead of the first that asks")
	}
	c.Long(nil)
	for i, s := range c.steps {
		if s != longStep(uint32(i)) {
			t.Errorf("step %d: %08X", i, s)
		}
	}
	c.steps = [256]uint32{}
	c.Long([]byte("123456789"))
	if c.steps != [256]uint32{} {
		t.Error("the table is made once more")
	}
}
