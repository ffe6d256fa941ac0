package model_test

import (
	"math"
	"math/big"
	"math/rand/v2"
	"slices"

	"saucier/api"
	"saucier/ask"
)

// terms_test.go: the terms of the chapter, word by word, and samples of spaces, memories and requests.

// functions: all that there are.
var functions = []uint8{1, 2, 3, 4, 5, 6, 15, 16, 23}

// end: the first address behind an area, however far.
func end(a api.Area) *big.Int {
	return new(big.Int).Add(big.NewInt(int64(a.At)), big.NewInt(int64(a.Many)))
}

// has: does an area have an address?
func has(a api.Area, x int) bool { return a.At <= x && big.NewInt(int64(x)).Cmp(end(a)) < 0 }

// areaOf: the area of an address.
func areaOf(l []api.Area, x int) (api.Area, bool) {
	for _, a := range l {
		if has(a, x) {
			return a, true
		}
	}
	return api.Area{}, false
}

// span: n addresses from a place on.
func span(at, n int) []int {
	l := make([]int, n)
	for i := range l {
		l[i] = at + i
	}
	return l
}

// readable: each address has an area, and that is read.
func readable(l []api.Area, addresses []int) bool {
	for _, x := range addresses {
		if a, ok := areaOf(l, x); !ok || !a.Read {
			return false
		}
	}
	return true
}

// writable: each address has an area, and that is written; and if one of these is Whole, the addresses are exactly it.
func writable(l []api.Area, addresses []int) bool {
	for _, x := range addresses {
		a, ok := areaOf(l, x)
		if !ok || !a.Write {
			return false
		}
		exactly := a.At == addresses[0] && end(a).Cmp(big.NewInt(int64(addresses[len(addresses)-1]+1))) == 0
		if a.Whole && !exactly {
			return false
		}
	}
	return true
}

// rightTable: the terms of right spaces and memories, for one table with n addresses.
func rightTable(l []api.Area, n int, mayWrite bool) bool {
	for i, a := range l {
		if a.At < 0 || a.Many < 1 || end(a).Cmp(big.NewInt(int64(n))) > 0 || a.Write && !mayWrite {
			return false
		}
		if i > 0 && big.NewInt(int64(a.At)).Cmp(end(l[i-1])) < 0 {
			return false
		}
	}
	return n <= 65536
}

// right: both are right.
func right(s api.Space, m api.Mem) bool {
	return rightTable(s.Coils, len(m.Coils), true) && rightTable(s.Inputs, len(m.Inputs), false) &&
		rightTable(s.Holding, len(m.Holding), true) && rightTable(s.Words, len(m.Words), false)
}

// wrongWith: what is wrong with a request.
func wrongWith(s api.Space, a api.Ask) uint8 {
	if !ask.Right(a) {
		return 3
	}
	read := span(int(a.At), int(a.Many))
	bits, words := span(int(a.At), len(a.Bits)), span(int(a.At), len(a.Words))
	ok := false
	switch a.Func {
	case 1:
		ok = readable(s.Coils, read)
	case 2:
		ok = readable(s.Inputs, read)
	case 3:
		ok = readable(s.Holding, read)
	case 4:
		ok = readable(s.Words, read)
	case 5, 15:
		ok = writable(s.Coils, bits)
	case 6, 16:
		ok = writable(s.Holding, words)
	case 23:
		ok = readable(s.Holding, read) && writable(s.Holding, span(int(a.To), len(a.Words)))
	}
	if !ok {
		return 2
	}
	return 0
}

// copied: a memory's contents, in another memory.
func copied(m api.Mem) api.Mem {
	return api.Mem{
		Coils:   append([]bool{}, m.Coils...),
		Inputs:  append([]bool{}, m.Inputs...),
		Holding: append([]uint16{}, m.Holding...),
		Words:   append([]uint16{}, m.Words...),
	}
}

// same: are all four tables the same?
func same(a, b api.Mem) bool {
	return slices.Equal(a.Coils, b.Coils) && slices.Equal(a.Inputs, b.Inputs) &&
		slices.Equal(a.Holding, b.Holding) && slices.Equal(a.Words, b.Words)
}

// bitsAt: bits that are read, up to a multiple of eight.
func bitsAt(l []bool, at, n int) []bool {
	var got []bool
	for i := 0; i < n || i%8 != 0; i++ {
		got = append(got, i < n && l[at+i])
	}
	return got
}

// done: the memory after a request, and the reply.
func done(s api.Space, m api.Mem, a api.Ask) (api.Mem, api.Reply) {
	if wrong := wrongWith(s, a); wrong != 0 {
		return m, api.Reply{Func: a.Func % 128, Except: wrong}
	}
	if !right(s, m) {
		return m, api.Reply{Func: a.Func, Except: 4}
	}
	m = copied(m)
	at, many := int(a.At), int(a.Many)
	r := api.Reply{Func: a.Func}
	switch a.Func {
	case 1:
		r.Bits = bitsAt(m.Coils, at, many)
	case 2:
		r.Bits = bitsAt(m.Inputs, at, many)
	case 3:
		r.Words = m.Holding[at : at+many]
	case 4:
		r.Words = m.Words[at : at+many]
	case 5:
		m.Coils[at] = a.Bits[0]
		r.At, r.Bits = a.At, a.Bits
	case 6:
		m.Holding[at] = a.Words[0]
		r.At, r.Words = a.At, a.Words
	case 15:
		for i, bit := range a.Bits {
			m.Coils[at+i] = bit
		}
		r.At, r.Many = a.At, a.Many
	case 16:
		for i, w := range a.Words {
			m.Holding[at+i] = w
		}
		r.At, r.Many = a.At, a.Many
	case 23:
		for i, w := range a.Words {
			m.Holding[int(a.To)+i] = w
		}
		r.Words = m.Holding[at : at+many]
	}
	return m, r
}

// extremes: numbers whose sums and differences are beyond every int, and those around no address and all of them.
var extremes = []int{math.MinInt, math.MinInt + 1, -65536, -5, -1, 0, 1, 2, 5, 65535, 65536, 65537, 70000, math.MaxInt - 65535, math.MaxInt - 1, math.MaxInt}

// pick: one of a list.
func pick[E any](r *rand.Rand, l []E) E { return l[r.IntN(len(l))] }

// often: true in all but one of n cases.
func often(r *rand.Rand, n int) bool { return r.IntN(n) > 0 }

// areasWithin: areas that are right in a table of n addresses.
func areasWithin(r *rand.Rand, n int, mayWrite bool) []api.Area {
	var l []api.Area
	for at := r.IntN(4); at < n; {
		many := 1 + r.IntN(min(6, n-at))
		if r.IntN(4) == 0 {
			many = n - at
		}
		l = append(l, api.Area{At: at, Many: many, Read: often(r, 4), Write: mayWrite && often(r, 4), Whole: !often(r, 3)})
		at += many + max(0, r.IntN(5)-2)
	}
	return l
}

// areasAnyhow: areas that may overlap, go backward, have nothing, or reach beyond every int.
func areasAnyhow(r *rand.Rand) []api.Area {
	l := make([]api.Area, r.IntN(4))
	for i := range l {
		l[i] = api.Area{At: r.IntN(20) - 4, Many: r.IntN(12) - 1, Read: often(r, 5), Write: often(r, 3), Whole: !often(r, 3)}
		if r.IntN(4) == 0 {
			l[i].At = pick(r, extremes)
		}
		if r.IntN(4) == 0 {
			l[i].Many = pick(r, extremes)
		}
	}
	return l
}

// bitsOf: n bits.
func bitsOf(r *rand.Rand, n int) []bool {
	l := make([]bool, n)
	for i := range l {
		l[i] = r.IntN(2) == 1
	}
	return l
}

// wordsOf: n words.
func wordsOf(r *rand.Rand, n int) []uint16 {
	l := make([]uint16, n)
	for i := range l {
		l[i] = uint16(r.IntN(65536))
	}
	return l
}

// memory: tables of up to n addresses each.
func memory(r *rand.Rand, n int) api.Mem {
	return api.Mem{
		Coils: bitsOf(r, r.IntN(n+1)), Inputs: bitsOf(r, r.IntN(n+1)),
		Holding: wordsOf(r, r.IntN(n+1)), Words: wordsOf(r, r.IntN(n+1)),
	}
}

// rightSpace: a space that is right with a memory.
func rightSpace(r *rand.Rand, m api.Mem) api.Space {
	return api.Space{
		Coils: areasWithin(r, len(m.Coils), true), Inputs: areasWithin(r, len(m.Inputs), false),
		Holding: areasWithin(r, len(m.Holding), true), Words: areasWithin(r, len(m.Words), false),
	}
}

// anySpace: a space that may be right or not.
func anySpace(r *rand.Rand) api.Space {
	return api.Space{Coils: areasAnyhow(r), Inputs: areasAnyhow(r), Holding: areasAnyhow(r), Words: areasAnyhow(r)}
}

// tableOf: the areas that a function reads, or writes.
func tableOf(s api.Space, function uint8) []api.Area {
	switch function {
	case 1, 5, 15:
		return s.Coils
	case 2:
		return s.Inputs
	case 4:
		return s.Words
	}
	return s.Holding
}

// place: a place and a count that are often those of an area, or within one.
func place(r *rand.Rand, l []api.Area, most int) (uint16, int) {
	if len(l) == 0 || !often(r, 6) {
		return uint16(r.IntN(24)), 1 + r.IntN(12)
	}
	a := pick(r, l)
	if a.Many < 1 || a.Many > most || a.At < 0 || a.At > 65535 {
		return uint16(a.At), 1 + r.IntN(12)
	}
	at, many := a.At, a.Many
	switch r.IntN(4) {
	case 0:
		at += r.IntN(many)
		many = 1 + r.IntN(a.At+a.Many-at)
	case 1:
		many = min(most, many+r.IntN(4))
	case 2:
		at -= r.IntN(2)
	}
	return uint16(at), many
}

// request: a right request, most often to addresses that there are.
func request(r *rand.Rand, s api.Space, function uint8) api.Ask {
	l := tableOf(s, function)
	at, many := place(r, l, 121)
	a := api.Ask{Func: function, At: at}
	switch function {
	case 5:
		a.Bits = bitsOf(r, 1)
	case 6:
		a.Words = wordsOf(r, 1)
	case 15:
		a.Many, a.Bits = uint16(many), bitsOf(r, many)
	case 16:
		a.Many, a.Words = uint16(many), wordsOf(r, many)
	case 23:
		to, n := place(r, l, 121)
		a.Many, a.To, a.Words = uint16(many), to, wordsOf(r, n)
	default:
		a.Many = uint16(many)
	}
	return a
}

// wrongRequest: a request that is not right.
func wrongRequest(r *rand.Rand, s api.Space) api.Ask {
	for {
		a := request(r, s, pick(r, functions))
		switch r.IntN(6) {
		case 0:
			a.Func = uint8(r.IntN(256))
		case 1:
			a.Many = uint16(r.IntN(65536))
		case 2:
			a.Words = append(a.Words, 7)
		case 3:
			a.Bits = append(a.Bits, true)
		case 4:
			a.To = uint16(1 + r.IntN(65535))
		case 5:
			a.Words, a.Bits = nil, nil
		}
		if !ask.Right(a) {
			return a
		}
	}
}
