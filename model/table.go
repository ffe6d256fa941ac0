package model

import "saucier/api"

// room: how many addresses a table may have.
const room = 1 << 16

// table: one of bits or of words: its areas, and what its addresses have, from 0 on. A table that is nil is one that a function doesn't use.
type table[E bool | uint16] struct {
	areas []api.Area
	cells []E
}

// right: are the areas as they should be, and all within the table?
func (t *table[E]) right() bool {
	end := 0
	for _, a := range t.areas {
		// Many is held against what is left: the end of an area may be beyond every int.
		if a.At < end || a.Many < 1 || a.Many > len(t.cells)-a.At {
			return false
		}
		end = a.At + a.Many
	}
	return len(t.cells) <= room
}

// fixed: is nothing of the table written?
func (t *table[E]) fixed() bool {
	for _, a := range t.areas {
		if a.Write {
			return false
		}
	}
	return true
}

// area: that of an address. Where there is none it is zero, which is neither read nor written.
func (t *table[E]) area(at int) api.Area {
	for _, a := range t.areas {
		// The distance has no sign, as it may be beyond every int.
		if a.Many > 0 && a.At <= at && uint(at)-uint(a.At) < uint(a.Many) {
			return a
		}
	}
	return api.Area{}
}

// readable: may the addresses be read, many from at on?
func (t *table[E]) readable(at, many int) bool {
	if t == nil {
		return true
	}
	for i := range many {
		if !t.area(at + i).Read {
			return false
		}
	}
	return true
}

// writable: may the addresses be written, many from at on?
func (t *table[E]) writable(at, many int) bool {
	if t == nil {
		return true
	}
	for i := range many {
		a := t.area(at + i)
		if !a.Write || a.Whole && (a.At != at || a.Many != many) {
			return false
		}
	}
	return true
}

// read: what readable addresses have, many from at on, and zeros behind it up to a multiple of step.
func (t *table[E]) read(at, many, step int) []E {
	if t == nil {
		return nil
	}
	l := make([]E, (many+step-1)/step*step)
	copy(l, t.cells[at:at+many])
	return l
}

// write: l to writable addresses, from at on.
func (t *table[E]) write(at int, l []E) {
	if t != nil {
		copy(t.cells[at:], l)
	}
}
