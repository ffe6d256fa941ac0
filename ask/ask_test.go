package ask_test

import (
	"bytes"
	"slices"
	"testing"

	"saucier/api"
	"saucier/ask"
)

// functions: all that there are.
var functions = []uint8{1, 2, 3, 4, 5, 6, 15, 16, 23}

// edges: numbers of 16 bits around all ranges of the chapter.
var edges = []uint16{0, 1, 2, 7, 8, 9, 120, 121, 122, 123, 124, 125, 126, 127, 255, 256, 257, 1967, 1968, 1969, 1999, 2000, 2001, 2040, 32767, 32768, 65279, 65280, 65281, 65534, 65535}

// is: are a row of bytes and those told the same?
func is(got []byte, want ...byte) bool { return bytes.Equal(got, want) }

// bitsOf: n bits of a short rule.
func bitsOf(n int) []bool {
	l := make([]bool, n)
	for i := range l {
		l[i] = i%3 == 0 || i%7 == 4
	}
	return l
}

// wordsOf: n words of a short rule, whose two bytes differ.
func wordsOf(n int) []uint16 {
	l := make([]uint16, n)
	for i := range l {
		l[i] = uint16(i*40503 + 258)
	}
	return l
}

// double: the number of two bytes, the upper one first.
func double(n uint16) []byte { return []byte{byte(n / 256), byte(n % 256)} }

// between: is n from low to high?
func between(n, low, high int) bool { return n >= low && n <= high }

// rightByTable: is a a right request, by the rows of the chapter's table?
func rightByTable(a api.Ask) bool {
	many, words, bits := int(a.Many), len(a.Words), len(a.Bits)
	switch a.Func {
	case 1, 2:
		return between(many, 1, 2000) && a.To == 0 && words == 0 && bits == 0
	case 3, 4:
		return between(many, 1, 125) && a.To == 0 && words == 0 && bits == 0
	case 5:
		return many == 0 && a.To == 0 && words == 0 && bits == 1
	case 6:
		return many == 0 && a.To == 0 && words == 1 && bits == 0
	case 15:
		return between(many, 1, 1968) && a.To == 0 && words == 0 && bits == many
	case 16:
		return between(many, 1, 123) && a.To == 0 && words == many && bits == 0
	case 23:
		return between(many, 1, 125) && between(words, 1, 121) && bits == 0
	}
	return false
}

// packed: bits in bytes, by the words of the chapter.
func packed(l []bool) []byte {
	var b []byte
	for len(l) > 0 {
		var c, weight byte = 0, 1
		for i := 0; i < 8 && i < len(l); i++ {
			if l[i] {
				c += weight
			}
			weight *= 2
		}
		b = append(b, c)
		l = l[min(8, len(l)):]
	}
	return b
}

// bytesByTable: the bytes of a right request, by the rows of the chapter's table.
func bytesByTable(a api.Ask) []byte {
	b := append([]byte{a.Func}, double(a.At)...)
	var list []byte
	for _, w := range a.Words {
		list = append(list, double(w)...)
	}
	if a.Func == 15 {
		list = packed(a.Bits)
	}
	switch a.Func {
	case 5:
		if a.Bits[0] {
			return append(b, 255, 0)
		}
		return append(b, 0, 0)
	case 6:
		return append(b, list...)
	}
	b = append(b, double(a.Many)...)
	if a.Func == 23 {
		b = append(append(b, double(a.To)...), double(uint16(len(a.Words)))...)
	}
	if len(list) > 0 {
		b = append(append(b, byte(len(list))), list...)
	}
	return b
}

// unpacked: the first n bits of b, or fewer if there are no more.
func unpacked(b []byte, n int) []bool {
	var l []bool
	for i := 0; i < n && i < 8*len(b); i++ {
		l = append(l, b[i/8]&(1<<(i%8)) != 0)
	}
	return l
}

// wrongByTable: the request that bytes are, or what is wrong with them, by the rows of the chapter's table.
func wrongByTable(b []byte) (api.Ask, uint8) {
	if len(b) == 0 || !slices.Contains(functions, b[0]) {
		return api.Ask{}, 1
	}
	head := map[uint8]int{15: 6, 16: 6, 23: 10}[b[0]] // where the list begins
	if len(b) < max(head, 5) || len(b) > 253 {
		return api.Ask{}, 3
	}
	at := func(i int) uint16 { return uint16(b[i])*256 + uint16(b[i+1]) }
	a := api.Ask{Func: b[0], At: at(1), Many: at(3)}
	switch b[0] {
	case 5:
		a.Many, a.Bits = 0, []bool{at(3) == 65280}
	case 6:
		a.Many, a.Words = 0, []uint16{at(3)}
	case 15:
		a.Bits = unpacked(b[head:], int(a.Many))
	case 23:
		a.To = at(5)
	}
	for i := head; (b[0] == 16 || b[0] == 23) && i+1 < len(b); i += 2 {
		a.Words = append(a.Words, at(i))
	}
	if !rightByTable(a) || !bytes.Equal(bytesByTable(a), b) {
		return api.Ask{}, 3
	}
	return a, 0
}

// rights: right requests of all functions, the least and the greatest among them.
func rights() []api.Ask {
	var l []api.Ask
	for _, at := range []uint16{0, 1, 107, 255, 256, 4660, 65535} {
		for _, many := range edges {
			for _, f := range []uint8{1, 2, 3, 4} {
				l = append(l, api.Ask{Func: f, At: at, Many: many})
			}
			l = append(l, api.Ask{Func: 6, At: at, Words: []uint16{many}})
			l = append(l, api.Ask{Func: 15, At: at, Many: many, Bits: bitsOf(int(many))})
			l = append(l, api.Ask{Func: 16, At: at, Many: many, Words: wordsOf(int(many))})
			l = append(l, api.Ask{Func: 23, At: at, Many: many, To: 65535 - at, Words: wordsOf(int(at%121) + 1)})
			l = append(l, api.Ask{Func: 23, At: at, Many: at%125 + 1, To: many, Words: wordsOf(int(many))})
		}
		for _, bit := range []bool{false, true} {
			l = append(l, api.Ask{Func: 5, At: at, Bits: []bool{bit}})
		}
		for n := range 18 {
			l = append(l, api.Ask{Func: 15, At: at, Many: uint16(n), Bits: bitsOf(n)})
		}
	}
	return slices.DeleteFunc(l, func(a api.Ask) bool { return !rightByTable(a) })
}

// examples: requests and their bytes, worked out by hand.
var examples = []struct {
	a api.Ask
	b []byte
}{
	{api.Ask{Func: 1, At: 19, Many: 37}, []byte{1, 0, 19, 0, 37}},
	{api.Ask{Func: 2, At: 65535, Many: 2000}, []byte{2, 255, 255, 7, 208}},
	{api.Ask{Func: 3, At: 107, Many: 3}, []byte{3, 0, 107, 0, 3}},
	{api.Ask{Func: 4, At: 4660, Many: 125}, []byte{4, 18, 52, 0, 125}},
	{api.Ask{Func: 5, At: 172, Bits: []bool{true}}, []byte{5, 0, 172, 255, 0}},
	{api.Ask{Func: 5, At: 172, Bits: []bool{false}}, []byte{5, 0, 172, 0, 0}},
	{api.Ask{Func: 6, At: 1, Words: []uint16{772}}, []byte{6, 0, 1, 3, 4}},
	{api.Ask{Func: 6}, nil},
	{api.Ask{Func: 15, At: 19, Many: 4, Bits: []bool{true, false, true, true}}, []byte{15, 0, 19, 0, 4, 1, 13}},
	{api.Ask{Func: 15, At: 1, Many: 8, Bits: []bool{false, false, false, false, false, false, false, true}}, []byte{15, 0, 1, 0, 8, 1, 128}},
	{api.Ask{Func: 15, Many: 9, Bits: []bool{false, false, false, false, false, false, false, false, true}}, []byte{15, 0, 0, 0, 9, 2, 0, 1}},
	{api.Ask{Func: 16, At: 1, Many: 2, Words: []uint16{10, 258}}, []byte{16, 0, 1, 0, 2, 4, 0, 10, 1, 2}},
	{api.Ask{Func: 23, At: 259, Many: 6, To: 3599, Words: []uint16{255, 65280}}, []byte{23, 1, 3, 0, 6, 14, 15, 0, 2, 4, 0, 255, 255, 0}},
}

// P2.1: bits stand in bytes from the lowest one on, the last byte filled up with zeros.
func TestPackKnownBits(t *testing.T) {
	for _, x := range []struct {
		bits string
		want []byte
	}{
		{"", nil}, {"0", []byte{0}}, {"1", []byte{1}}, {"01", []byte{2}}, {"1011", []byte{13}},
		{"00000001", []byte{128}}, {"000000001", []byte{0, 1}}, {"11111111", []byte{255}}, {"111111111", []byte{255, 1}},
		{"1000000100000000", []byte{129, 0}}, {"00000000000000000", []byte{0, 0, 0}},
	} {
		var l []bool
		for _, c := range x.bits {
			l = append(l, c == '1')
		}
		if got := ask.Pack(l); !is(got, x.want...) {
			t.Errorf("Pack(%s) = %v, want %v", x.bits, got, x.want)
		}
	}
	if got := ask.Pack([]bool{}); len(got) != 0 {
		t.Error(got)
	}
}

// P2.1: of any number of bits.
func TestPackOfAnyLength(t *testing.T) {
	lengths := []int{1967, 1968, 1969, 2000, 2001, 65535, 65536, 65543, 600001}
	for n := range 100 {
		lengths = append(lengths, n)
	}
	for _, n := range lengths {
		if got := ask.Pack(bitsOf(n)); !bytes.Equal(got, packed(bitsOf(n))) {
			t.Errorf("Pack of %d bits is wrong", n)
		}
	}
}

// P2.1: each byte gives its eight bits, the lowest one first.
func TestUnpack(t *testing.T) {
	if got := ask.Unpack(nil); len(got) != 0 {
		t.Error(got)
	}
	if got := ask.Unpack([]byte{}); len(got) != 0 {
		t.Error(got)
	}
	for c := range 256 {
		got := ask.Unpack([]byte{byte(c), byte(255 - c)})
		if len(got) != 16 {
			t.Fatalf("Unpack of two bytes: %d bits", len(got))
		}
		for k := range 8 {
			bit := c/(1<<k)%2 == 1
			if got[k] != bit || got[8+k] == bit {
				t.Errorf("Unpack(%d, %d) = %v", c, 255-c, got)
			}
		}
	}
	for _, n := range []int{3, 250, 251, 252, 253, 254, 8192, 70000} {
		l := bitsOf(8 * n)
		if got := ask.Unpack(packed(l)); !slices.Equal(got, l) {
			t.Errorf("Unpack of %d bytes is wrong", n)
		}
	}
}

// P2.1: Right with every Many, each function with no list, and with lists of as many, one less, and one more.
func TestRightByMany(t *testing.T) {
	long, bits := wordsOf(65537), bitsOf(65537)
	for many := range 65536 {
		for _, f := range functions {
			bare := api.Ask{Func: f, At: uint16(many * 3), Many: uint16(many)}
			l := []api.Ask{bare, bare, bare, bare}
			l[1].Words, l[2].Bits = long[:many], bits[:many]
			l[3].Words = long[:1]
			if many > 0 && between(many, 0, 2048) {
				l = append(l, l[1], l[1], l[2], l[2])
				l[4].Words, l[5].Words = long[:many-1], long[:many+1]
				l[6].Bits, l[7].Bits = bits[:many-1], bits[:many+1]
			}
			for i, a := range l {
				if got := ask.Right(a); got != rightByTable(a) {
					t.Fatalf("Right of function %d with Many %d and list %d = %v", f, many, i, got)
				}
			}
		}
	}
}

// P2.1: Right with lists of any length, those among them whose length is Many only in its lower 16 or 8 bits.
func TestRightByLists(t *testing.T) {
	words, bits := wordsOf(70000), bitsOf(70000)
	for _, f := range functions {
		for _, many := range []uint16{0, 1, 2, 121, 123, 125, 1968, 2000} {
			for _, n := range []int{0, 1, 2, 3, 120, 121, 122, 123, 124, 125, 126, 256, 257, 258, 377, 379, 1967, 1968, 1969, 2000, 65536, 65537, 65538, 65657, 65659} {
				for _, m := range []int{0, 1, n} {
					a := api.Ask{Func: f, Many: many, Words: words[:n], Bits: bits[:m]}
					b := api.Ask{Func: f, Many: many, Words: words[:m], Bits: bits[:n]}
					if ask.Right(a) != rightByTable(a) || ask.Right(b) != rightByTable(b) {
						t.Errorf("function %d, Many %d, lists of %d and %d", f, many, n, m)
					}
				}
			}
		}
	}
}

// P2.1: no other function is right, with whatever fields.
func TestRightByFunctions(t *testing.T) {
	l := rights()[:200]
	for f := range 256 {
		for _, a := range l {
			a.Func = uint8(f)
			if got := ask.Right(a); got != rightByTable(a) {
				t.Errorf("Right(%v) = %v", a, got)
			}
		}
		if a := (api.Ask{Func: uint8(f)}); ask.Right(a) {
			t.Errorf("Right(%v)", a)
		}
	}
}

// P2.1: fields that a function doesn't have are zero; At, and To of function 23, are any.
func TestRightByOtherFields(t *testing.T) {
	for _, a := range rights() {
		if !ask.Right(a) {
			t.Fatalf("Right(%v) = false", a)
		}
		to, words, bits, many := a, a, a, a
		to.To++
		words.Words = append(slices.Clone(a.Words), 0)
		bits.Bits = append(slices.Clone(a.Bits), false)
		many.Many++
		for i, x := range []api.Ask{to, words, bits, many} {
			if got := ask.Right(x); got != rightByTable(x) {
				t.Errorf("Right of function %d, field %d other = %v", a.Func, i, got)
			}
		}
		a.At += 12345
		if !ask.Right(a) {
			t.Errorf("Right(%v) = false", a)
		}
	}
}

// P2.1, R6: an empty list is no list.
func TestEmptyListsAreNone(t *testing.T) {
	a := api.Ask{Func: 3, Many: 1, Words: []uint16{}, Bits: []bool{}}
	b, e := ask.Bytes(a)
	if !ask.Right(a) || e != api.OK || !is(b, 3, 0, 0, 0, 1) || !ask.Same(a, api.Ask{Func: 3, Many: 1}) || !ask.Same(api.Ask{Func: 3, Many: 1}, a) {
		t.Error(a, b, e)
	}
}

// P2.1: requests are the same if no field differs, right or not.
func TestSame(t *testing.T) {
	l := []api.Ask{
		{}, {Func: 1}, {Func: 2}, {At: 1}, {At: 257}, {Many: 1}, {Many: 257}, {To: 1}, {To: 257},
		{Words: []uint16{0}}, {Words: []uint16{0, 0}}, {Words: []uint16{1, 0}}, {Words: []uint16{0, 1}}, {Words: []uint16{0, 257}},
		{Bits: []bool{false}}, {Bits: []bool{true}}, {Bits: []bool{false, false}}, {Bits: []bool{true, false}}, {Bits: []bool{false, true}},
		{Words: []uint16{0}, Bits: []bool{false}},
		{Func: 23, At: 1, Many: 2, To: 3, Words: []uint16{4, 5}}, {Func: 23, At: 1, Many: 2, To: 3, Words: []uint16{5, 4}}, {Func: 23, At: 1, Many: 2, To: 4, Words: []uint16{4, 5}},
		{Func: 23, At: 2, Many: 1, To: 3, Words: []uint16{4, 5}}, {Func: 23, At: 1, Many: 2, To: 3, Words: []uint16{4, 5}, Bits: []bool{true}},
	}
	for i, a := range l {
		for k, b := range l {
			b.Words, b.Bits = slices.Clone(b.Words), slices.Clone(b.Bits)
			if got := ask.Same(a, b); got != (i == k) {
				t.Errorf("Same(%v, %v) = %v", a, b, got)
			}
		}
	}
}

// P2.2: known requests have known bytes, and known bytes are known requests.
func TestKnownRequests(t *testing.T) {
	for _, x := range examples {
		b, e := ask.Bytes(x.a)
		if x.b == nil {
			if e != api.ErrAsk || len(b) != 0 {
				t.Errorf("Bytes(%v) = %v, %d, want ErrAsk alone", x.a, b, e)
			}
			continue
		}
		if e != api.OK || !bytes.Equal(b, x.b) {
			t.Errorf("Bytes(%v) = %v, %d, want %v", x.a, b, e, x.b)
		}
		if a, e := ask.Parse(x.b); e != api.OK || !ask.Same(a, x.a) {
			t.Errorf("Parse(%v) = %v, %d, want %v", x.b, a, e, x.a)
		}
	}
}

// P2.2: a request that isn't right has no bytes.
func TestBytesOfWrongRequests(t *testing.T) {
	for _, a := range []api.Ask{
		{}, {Func: 0, Many: 1}, {Func: 7}, {Func: 131, Many: 1}, {Func: 255, Many: 1}, {Func: 1}, {Func: 1, Many: 2001}, {Func: 2, Many: 65535}, {Func: 3, Many: 126}, {Func: 4},
		{Func: 3, Many: 1, To: 1}, {Func: 3, Many: 1, Words: []uint16{1}}, {Func: 1, Many: 1, Bits: []bool{true}},
		{Func: 5}, {Func: 5, Bits: bitsOf(2)}, {Func: 5, Many: 1, Bits: bitsOf(1)}, {Func: 5, Words: wordsOf(1)}, {Func: 5, Words: wordsOf(1), Bits: bitsOf(1)},
		{Func: 6}, {Func: 6, Words: wordsOf(2)}, {Func: 6, Many: 1, Words: wordsOf(1)}, {Func: 6, Bits: bitsOf(1)}, {Func: 6, To: 1, Words: wordsOf(1)},
		{Func: 15}, {Func: 15, Many: 2, Bits: bitsOf(1)}, {Func: 15, Many: 1969, Bits: bitsOf(1969)}, {Func: 15, Many: 1, Bits: bitsOf(65537)}, {Func: 15, Many: 1, Bits: bitsOf(8)},
		{Func: 16}, {Func: 16, Many: 2, Words: wordsOf(1)}, {Func: 16, Many: 124, Words: wordsOf(124)}, {Func: 16, Many: 1, Words: wordsOf(65537)}, {Func: 16, Many: 1, To: 1, Words: wordsOf(1)},
		{Func: 23, Many: 1}, {Func: 23, Words: wordsOf(1)}, {Func: 23, Many: 126, Words: wordsOf(1)}, {Func: 23, Many: 1, Words: wordsOf(122)}, {Func: 23, Many: 1, Words: wordsOf(65537)}, {Func: 23, Many: 1, Words: wordsOf(1), Bits: bitsOf(1)},
	} {
		if b, e := ask.Bytes(a); e != api.ErrAsk || len(b) != 0 {
			t.Errorf("Bytes of function %d, Many %d, %d words, %d bits = %v, %d, want ErrAsk alone", a.Func, a.Many, len(a.Words), len(a.Bits), b, e)
		}
	}
}

// P2.2, P2.4: the bytes of right requests are those of the table, at most 253, and Parse returns the request.
func TestParseOfBytes(t *testing.T) {
	greatest := 0
	for _, a := range rights() {
		b, e := ask.Bytes(a)
		if e != api.OK || !bytes.Equal(b, bytesByTable(a)) {
			t.Fatalf("Bytes(%v) = %v, %d", a, b, e)
		}
		if got, e := ask.Parse(b); e != api.OK || !ask.Same(got, a) {
			t.Errorf("Parse of Bytes(%v) = %v, %d", a, got, e)
		}
		greatest = max(greatest, len(b))
	}
	if greatest > 253 || greatest < 252 {
		t.Errorf("the greatest request has %d bytes", greatest)
	}
}

// P2.2: of the requests that write one bit, two numbers alone are right; of those that write a word, all.
func TestParseOfOneValue(t *testing.T) {
	for v := range 65536 {
		b := append([]byte{5, 0, 172}, double(uint16(v))...)
		a, e := ask.Parse(b)
		if v == 0 || v == 65280 {
			if e != api.OK || !ask.Same(a, api.Ask{Func: 5, At: 172, Bits: []bool{v > 0}}) {
				t.Errorf("Parse(%v) = %v, %d", b, a, e)
			}
		} else if e != api.ErrAsk || !ask.Same(a, api.Ask{}) {
			t.Errorf("Parse(%v) = %v, %d, want ErrAsk alone", b, a, e)
		}
		b[0] = 6
		if a, e := ask.Parse(b); e != api.OK || !ask.Same(a, api.Ask{Func: 6, At: 172, Words: []uint16{uint16(v)}}) {
			t.Errorf("Parse(%v) = %v, %d", b, a, e)
		}
	}
}

// meets: Parse and Look say of b what the table does.
func meets(t *testing.T, b []byte) {
	t.Helper()
	want, wrong := wrongByTable(b)
	a, e := ask.Parse(b)
	bare := want
	if wrong != 0 {
		bare = api.Ask{}
		if len(b) > 0 {
			bare.Func = b[0]
		}
	}
	if !ask.Same(a, want) || e == api.OK != (wrong == 0) || e != api.OK && e != api.ErrAsk {
		t.Fatalf("Parse(%v) = %v, %d, want %v", b, a, e, want)
	}
	if got, w := ask.Look(b); !ask.Same(got, bare) || w != wrong {
		t.Fatalf("Look(%v) = %v, %d, want %v, %d", b, got, w, bare, wrong)
	}
}

// P2.3: known bytes.
func TestLookAtKnownBytes(t *testing.T) {
	for _, x := range []struct {
		b    []byte
		want uint8
	}{
		{nil, api.ExFunc}, {[]byte{}, api.ExFunc}, {[]byte{0}, api.ExFunc}, {[]byte{7}, api.ExFunc}, {[]byte{7, 0, 0, 0, 1}, api.ExFunc}, {[]byte{131, 2}, api.ExFunc},
		{[]byte{3}, api.ExValue}, {[]byte{3, 0, 0, 0}, api.ExValue}, {[]byte{3, 0, 0, 0, 0}, api.ExValue}, {[]byte{3, 0, 0, 0, 126}, api.ExValue}, {[]byte{3, 0, 0, 1, 1}, api.ExValue}, {[]byte{3, 0, 0, 0, 125}, 0},
		{[]byte{1, 0, 0, 7, 209}, api.ExValue}, {[]byte{1, 255, 255, 7, 208}, 0},
		{[]byte{5, 0, 172, 255, 0}, 0}, {[]byte{5, 0, 172, 255, 1}, api.ExValue}, {[]byte{5, 0, 172, 0, 1}, api.ExValue}, {[]byte{5, 0, 172, 255}, api.ExValue},
		{[]byte{15, 0, 0, 0, 3, 1, 8}, api.ExValue}, {[]byte{15, 0, 0, 0, 3, 1, 7}, 0}, {[]byte{15, 0, 0, 0, 3, 2, 7, 0}, api.ExValue}, {[]byte{15, 0, 0, 0, 3, 0}, api.ExValue}, {[]byte{15, 0, 0, 0, 3, 2, 7}, api.ExValue}, {[]byte{15, 0, 0, 0, 0, 0}, api.ExValue}, {[]byte{15, 0, 0, 0, 9, 1, 7}, api.ExValue},
		{[]byte{16, 0, 0, 0, 1, 2, 7, 7}, 0}, {[]byte{16, 0, 0, 0, 1, 1, 7, 7}, api.ExValue}, {[]byte{16, 0, 0, 0, 2, 2, 7, 7}, api.ExValue}, {[]byte{16, 0, 0, 0, 0, 0}, api.ExValue}, {[]byte{16, 0, 0, 0, 1, 2, 7}, api.ExValue}, {[]byte{16, 0, 0, 0, 1, 4, 7, 7, 7, 7}, api.ExValue},
		{[]byte{23, 0, 0, 0, 1, 0, 0, 0, 1, 2, 7, 7}, 0}, {[]byte{23, 0, 0, 0, 126, 0, 0, 0, 1, 2, 7, 7}, api.ExValue}, {[]byte{23, 0, 0, 0, 1, 0, 0, 0, 2, 2, 7, 7}, api.ExValue}, {[]byte{23, 0, 0, 0, 1, 0, 0, 1, 1, 2, 7, 7}, api.ExValue}, {[]byte{23, 0, 0, 0, 1, 0, 0, 0, 0, 0}, api.ExValue}, {[]byte{23, 0, 0, 0, 1, 0, 0, 0, 1, 4, 7, 7}, api.ExValue},
	} {
		if _, got := ask.Look(x.b); got != x.want {
			t.Errorf("Look(%v): %d, want %d", x.b, got, x.want)
		}
		meets(t, x.b)
	}
}

// P2.3: each first byte, alone and with zeros or ones behind it, up to more than any request has.
func TestLookAtFirstBytes(t *testing.T) {
	for f := range 256 {
		for _, n := range []int{0, 1, 2, 3, 4, 5, 6, 7, 9, 11, 251, 252, 253, 254, 70000} {
			for _, c := range []byte{0, 1, 255} {
				meets(t, append([]byte{byte(f)}, bytes.Repeat([]byte{c}, n)...))
			}
		}
	}
}

// P2.3: lists that are too long by themselves are no request, though all counts agree as far as they can.
func TestLookAtLongLists(t *testing.T) {
	for n := 119; n <= 200; n++ {
		list := bytes.Repeat([]byte{7}, 2*n)
		count := byte(len(list))
		meets(t, append([]byte{16, 0, 0, 0, byte(n), count}, list...))
		meets(t, append([]byte{23, 0, 0, 0, 1, 0, 0, 0, byte(n), count}, list...))
	}
	for many := 1950; many <= 2300; many++ {
		list := packed(bitsOf(many))
		meets(t, append([]byte{15, 0, 0, byte(many / 256), byte(many % 256), byte(len(list))}, list...))
	}
}

// P2.2 to P2.4: a request with a byte less or more is none; nor is one with any other number of bytes.
func TestLengths(t *testing.T) {
	for _, a := range rights() {
		whole := bytesByTable(a)
		for _, c := range []byte{0, 1, 255} {
			b := append(slices.Clone(whole), c)
			if _, e := ask.Parse(b); e != api.ErrAsk {
				t.Fatalf("Parse(%v): %d, want ErrAsk", b, e)
			}
			meets(t, b)
			meets(t, append(b, c))
		}
		if _, e := ask.Parse(whole[:len(whole)-1]); e != api.ErrAsk {
			t.Fatalf("Parse(%v): %d, want ErrAsk", whole[:len(whole)-1], e)
		}
	}
	for _, x := range examples {
		for n := range x.b {
			meets(t, x.b[:n])
		}
	}
}

// P2.2, P2.3: every byte of a known request, with every value.
func TestOtherBytes(t *testing.T) {
	for _, x := range examples {
		for i := range x.b {
			for c := range 256 {
				b := slices.Clone(x.b)
				b[i] = byte(c)
				meets(t, b)
			}
		}
	}
}

// P2.2, P2.3: requests with some bytes that others have, and with some cut off or added; the draw is the same each time.
func TestDrawnBytes(t *testing.T) {
	state, l := uint32(2), rights()
	draw := func(n int) int {
		state = state*1664525 + 1013904223
		return int(state>>8) % n
	}
	for range 20000 {
		b := bytesByTable(l[draw(len(l))])
		for range draw(4) {
			b[draw(min(len(b), 12))] = byte(draw(256) >> draw(8))
		}
		if draw(4) == 0 {
			b = b[:draw(len(b)+1)]
		}
		if draw(4) == 0 {
			b = append(b, repeated(draw(5), draw(256))...)
		}
		meets(t, b)
	}
}

// repeated: n bytes c.
func repeated(n, c int) []byte { return bytes.Repeat([]byte{byte(c)}, n) }

// P2.4: different requests have different bytes.
func TestDifferentRequestsDiffer(t *testing.T) {
	met := map[string]api.Ask{}
	for _, a := range rights() {
		b, _ := ask.Bytes(a)
		if before, ok := met[string(b)]; ok && !ask.Same(before, a) {
			t.Errorf("%v and %v have the bytes %v", before, a, b)
		}
		met[string(b)] = a
	}
	if len(met) < 1000 {
		t.Errorf("only %d requests", len(met))
	}
}

// R3: no argument changes, its spare capacity neither.
func TestArgumentsStay(t *testing.T) {
	words, bits := wordsOf(130), bitsOf(2100)
	for _, a := range []api.Ask{
		{Func: 6, Words: words[:1]}, {Func: 16, Many: 3, Words: words[:3]}, {Func: 23, Many: 1, Words: words[:121]}, {Func: 16, Many: 3, Words: words[:4]},
		{Func: 5, Bits: bits[:1]}, {Func: 15, Many: 3, Bits: bits[:3]}, {Func: 15, Many: 1968, Bits: bits[:1968]}, {Func: 9, Words: words[:2], Bits: bits[:2]},
	} {
		ask.Right(a)
		ask.Same(a, a)
		ask.Bytes(a)
		ask.Pack(a.Bits)
		if !slices.Equal(words, wordsOf(130)) || !slices.Equal(bits, bitsOf(2100)) {
			t.Fatalf("function %d: an argument changed", a.Func)
		}
	}
	for _, x := range examples {
		b := append(slices.Clone(x.b), 9, 9, 9, 9)
		before := slices.Clone(b)
		for n := range b {
			ask.Parse(b[:n])
			ask.Look(b[:n])
			ask.Unpack(b[:n])
		}
		if !bytes.Equal(b, before) {
			t.Fatalf("%v became %v", before, b)
		}
	}
}

// fill: writes c to all elements of l, spare ones too.
func fill[E any](l []E, c E) {
	l = l[:cap(l)]
	for i := range l {
		l[i] = c
	}
}

// R3: results are new memory, spare capacity and all.
func TestResultsAreNew(t *testing.T) {
	for _, a := range rights()[:400] {
		words, bits := slices.Clone(a.Words), slices.Clone(a.Bits)
		b, _ := ask.Bytes(a)
		again, _ := ask.Bytes(a)
		fill(again, 170)
		first, _ := ask.Parse(b)
		second, _ := ask.Parse(b)
		third, _ := ask.Look(b)
		for _, x := range []api.Ask{second, third} {
			fill(x.Words, 43690)
			fill(x.Bits, true)
			fill(x.Bits, false)
		}
		if !ask.Same(first, a) || !bytes.Equal(b, bytesByTable(a)) || !slices.Equal(a.Words, words) || !slices.Equal(a.Bits, bits) {
			t.Fatalf("what function %d answers is shared", a.Func)
		}
	}
	l, b := bitsOf(20), []byte{1, 2, 3}
	one, other := ask.Pack(l), ask.Unpack(b)
	fill(ask.Pack(l), 170)
	fill(ask.Unpack(b), true)
	if !bytes.Equal(one, packed(l)) || !slices.Equal(l, bitsOf(20)) || !is(b, 1, 2, 3) || !bytes.Equal(packed(other), b) {
		t.Error("what Pack or Unpack answers is shared")
	}
}

// R4: a call hangs on its arguments alone, whatever was called before, and by whom.
func TestCallsAreAlike(t *testing.T) {
	done := make(chan bool)
	l := rights()[:300]
	for range 8 {
		go func() {
			ok := true
			for _, a := range l {
				b, _ := ask.Bytes(a)
				got, wrong := ask.Look(b)
				ok = ok && wrong == 0 && ask.Same(got, a)
			}
			done <- ok
		}()
	}
	for range 8 {
		if !<-done {
			t.Error("a call went another way beside others")
		}
	}
}
