package reply_test

import (
	"bytes"
	"slices"
	"testing"

	"saucier/api"
	"saucier/ask"
	"saucier/reply"
)

// functions: all that there are.
var functions = []uint8{1, 2, 3, 4, 5, 6, 15, 16, 23}

// edges: numbers of 16 bits around all ranges of the chapter.
var edges = []uint16{0, 1, 2, 7, 8, 9, 122, 123, 124, 125, 126, 255, 256, 257, 1967, 1968, 1969, 2000, 2001, 32768, 65279, 65280, 65281, 65535}

// bitsOf: n bits of a short rule.
func bitsOf(n int) []bool {
	l := make([]bool, n)
	for i := range l {
		l[i] = i%3 == 0 || i%7 == 4
	}
	return l
}

// wordsOf: n words of a short rule, whose two bytes differ.
func wordsOf(n int) []uint16 {
	l := make([]uint16, n)
	for i := range l {
		l[i] = uint16(i*40503 + 258)
	}
	return l
}

// double: the number of two bytes, the upper one first.
func double(n uint16) []byte { return []byte{byte(n / 256), byte(n % 256)} }

// between: is n from low to high?
func between(n, low, high int) bool { return n >= low && n <= high }

// rightByTable: is r a right reply, by the rows of the chapter's table?
func rightByTable(r api.Reply) bool {
	at, many, words, bits := int(r.At), int(r.Many), len(r.Words), len(r.Bits)
	if r.Except > 0 {
		return r.Func <= 127 && r.Except <= 4 && at == 0 && many == 0 && words == 0 && bits == 0
	}
	switch r.Func {
	case 1, 2:
		return at == 0 && many == 0 && words == 0 && between(bits, 8, 2000) && bits%8 == 0
	case 3, 4, 23:
		return at == 0 && many == 0 && between(words, 1, 125) && bits == 0
	case 5:
		return many == 0 && words == 0 && bits == 1
	case 6:
		return many == 0 && words == 1 && bits == 0
	case 15:
		return between(many, 1, 1968) && words == 0 && bits == 0
	case 16:
		return between(many, 1, 123) && words == 0 && bits == 0
	}
	return false
}

// bytesByTable: the bytes of a right reply, by the rows of the chapter's table.
func bytesByTable(r api.Reply) []byte {
	if r.Except > 0 {
		return []byte{r.Func + 128, r.Except}
	}
	var list []byte
	for _, w := range r.Words {
		list = append(list, double(w)...)
	}
	echo := append([]byte{r.Func}, double(r.At)...)
	switch r.Func {
	case 5:
		if r.Bits[0] {
			return append(echo, 255, 0)
		}
		return append(echo, 0, 0)
	case 6:
		return append(echo, list...)
	case 15, 16:
		return append(echo, double(r.Many)...)
	}
	for i := 0; i < len(r.Bits); i += 8 {
		var c byte
		for k := 7; k >= 0; k-- {
			c *= 2
			if r.Bits[i+k] {
				c++
			}
		}
		list = append(list, c)
	}
	return append([]byte{r.Func, byte(len(list))}, list...)
}

// parsedByTable: the right reply with the bytes b, if there is one, by the rows of the chapter's table.
func parsedByTable(b []byte) (api.Reply, bool) {
	if len(b) < 2 || len(b) > 253 {
		return api.Reply{}, false
	}
	r := api.Reply{Func: b[0]}
	at := func(i int) uint16 { return uint16(b[i])*256 + uint16(b[i+1]) }
	if slices.Contains([]uint8{5, 6, 15, 16}, b[0]) {
		if len(b) != 5 {
			return api.Reply{}, false
		}
		r.At = at(1)
	}
	switch {
	case b[0] >= 128:
		r.Func, r.Except = b[0]-128, b[1]
	case b[0] <= 2:
		for i := range 8 * (len(b) - 2) {
			r.Bits = append(r.Bits, b[2+i/8]&(1<<(i%8)) != 0)
		}
	case b[0] == 5:
		r.Bits = []bool{at(3) == 65280}
	case b[0] == 6:
		r.Words = []uint16{at(3)}
	case b[0] == 15 || b[0] == 16:
		r.Many = at(3)
	default:
		for i := 2; i+1 < len(b); i += 2 {
			r.Words = append(r.Words, at(i))
		}
	}
	if !rightByTable(r) || !bytes.Equal(bytesByTable(r), b) {
		return api.Reply{}, false
	}
	return r, true
}

// fitsByTerms: does r fit a, by the words of the chapter?
func fitsByTerms(a api.Ask, r api.Reply) bool {
	if !ask.Right(a) || !rightByTable(r) || r.Func != a.Func {
		return false
	}
	if r.Except > 0 {
		return true
	}
	switch a.Func {
	case 1, 2:
		for i := int(a.Many); i < len(r.Bits); i++ {
			if r.Bits[i] {
				return false
			}
		}
		return between(len(r.Bits)-int(a.Many), 0, 7)
	case 3, 4, 23:
		return len(r.Words) == int(a.Many)
	case 5:
		return r.At == a.At && r.Bits[0] == a.Bits[0]
	case 6:
		return r.At == a.At && r.Words[0] == a.Words[0]
	}
	return r.At == a.At && r.Many == a.Many
}

// rights: right replies of all kinds, the least and the greatest among them.
func rights() []api.Reply {
	var l []api.Reply
	for f := range 256 {
		for except := range 256 {
			l = append(l, api.Reply{Func: uint8(f), Except: uint8(except)})
		}
	}
	for n := range 260 {
		l = append(l, api.Reply{Func: 1, Bits: bitsOf(8 * n)}, api.Reply{Func: 2, Bits: bitsOf(8*n + 3)[3:]})
		for _, f := range []uint8{3, 4, 23} {
			l = append(l, api.Reply{Func: f, Words: wordsOf(n)}, api.Reply{Func: f, Words: wordsOf(n + 1)[1:]})
		}
	}
	for _, at := range edges {
		for _, n := range edges {
			l = append(l, api.Reply{Func: 6, At: at, Words: []uint16{n}})
			l = append(l, api.Reply{Func: 15, At: at, Many: n}, api.Reply{Func: 16, At: at, Many: n})
		}
		l = append(l, api.Reply{Func: 5, At: at, Bits: []bool{false}}, api.Reply{Func: 5, At: at, Bits: []bool{true}})
	}
	return slices.DeleteFunc(l, func(r api.Reply) bool { return !rightByTable(r) })
}

// requests: right requests of all functions, and one that is wrong of each.
func requests() []api.Ask {
	var l []api.Ask
	for _, at := range []uint16{0, 256, 65535} {
		for _, many := range []uint16{1, 2, 7, 8, 9, 10, 15, 16, 17, 122, 123, 124, 125, 1967, 1968, 1969, 1993, 1999, 2000} {
			for _, f := range []uint8{1, 2, 3, 4} {
				l = append(l, api.Ask{Func: f, At: at, Many: many})
			}
			l = append(l, api.Ask{Func: 6, At: at, Words: []uint16{many}})
			l = append(l, api.Ask{Func: 15, At: at, Many: many, Bits: bitsOf(int(many))})
			l = append(l, api.Ask{Func: 16, At: at, Many: many, Words: wordsOf(int(many))})
			l = append(l, api.Ask{Func: 23, At: at, Many: many, To: 9, Words: wordsOf(4)})
		}
		l = append(l, api.Ask{Func: 5, At: at, Bits: []bool{true}}, api.Ask{Func: 5, At: at, Bits: []bool{false}})
	}
	l = slices.DeleteFunc(l, func(a api.Ask) bool { return !ask.Right(a) })
	for _, f := range functions {
		l = append(l, api.Ask{Func: f})
	}
	return append(l, api.Ask{}, api.Ask{Func: 7}, api.Ask{Func: 131, Many: 1})
}

// others: replies that differ from r in one field.
func others(r api.Reply) []api.Reply {
	l := make([]api.Reply, 12)
	for i := range l {
		l[i] = r
		l[i].Bits, l[i].Words = slices.Clone(r.Bits), slices.Clone(r.Words)
	}
	l[0].Func++
	l[1].Func += 128
	l[2].Except++
	l[3].Except += 4
	l[4].At++
	l[5].At += 256
	l[6].Many++
	l[7].Many += 256
	l[8].Bits = append(l[8].Bits, false)
	l[9].Bits = append(l[9].Bits, make([]bool, 8)...)
	l[10].Words = append(l[10].Words, 0)
	if n := len(r.Words); n > 0 {
		l[11].Words[n-1] ^= 256
	} else if n := len(r.Bits); n > 0 {
		l[11].Bits[n-1] = !l[11].Bits[n-1]
	} else {
		l[11].Bits, l[11].Words = bitsOf(8), wordsOf(1)
	}
	return l
}

// examples: replies and their bytes, worked out by hand.
var examples = []struct {
	r api.Reply
	b []byte
}{
	{api.Reply{Func: 3, Except: 2}, []byte{131, 2}},
	{api.Reply{Func: 0, Except: 1}, []byte{128, 1}},
	{api.Reply{Func: 127, Except: 4}, []byte{255, 4}},
	{api.Reply{Func: 1, Bits: []bool{true, false, true, true, false, false, false, false}}, []byte{1, 1, 13}},
	{api.Reply{Func: 2, Bits: []bool{false, false, false, false, false, false, false, true, true, false, false, false, false, false, false, false}}, []byte{2, 2, 128, 1}},
	{api.Reply{Func: 3, Words: []uint16{1, 258}}, []byte{3, 4, 0, 1, 1, 2}},
	{api.Reply{Func: 4, Words: []uint16{65280}}, []byte{4, 2, 255, 0}},
	{api.Reply{Func: 5, At: 172, Bits: []bool{true}}, []byte{5, 0, 172, 255, 0}},
	{api.Reply{Func: 5, At: 258, Bits: []bool{false}}, []byte{5, 1, 2, 0, 0}},
	{api.Reply{Func: 6, At: 258, Words: []uint16{772}}, []byte{6, 1, 2, 3, 4}},
	{api.Reply{Func: 15, At: 19, Many: 10}, []byte{15, 0, 19, 0, 10}},
	{api.Reply{Func: 15, At: 65535, Many: 1968}, []byte{15, 255, 255, 7, 176}},
	{api.Reply{Func: 16, At: 258, Many: 123}, []byte{16, 1, 2, 0, 123}},
	{api.Reply{Func: 23, Words: []uint16{254, 2765}}, []byte{23, 4, 0, 254, 10, 205}},
}

// P3.1: Right with every function and every exception, alone and with each other field.
func TestRightByFunctionsAndExceptions(t *testing.T) {
	for f := range 256 {
		for except := range 256 {
			r := api.Reply{Func: uint8(f), Except: uint8(except)}
			for i, x := range append(others(r), r) {
				if got := reply.Right(x); got != rightByTable(x) {
					t.Errorf("Right of function %d, exception %d, field %d other = %v", f, except, i, got)
				}
			}
		}
	}
}

// P3.1: Right with every Many.
func TestRightByMany(t *testing.T) {
	for many := range 65536 {
		for _, f := range functions {
			r := api.Reply{Func: f, At: uint16(many * 3), Many: uint16(many)}
			if got := reply.Right(r); got != rightByTable(r) {
				t.Fatalf("Right of function %d with Many %d = %v", f, many, got)
			}
		}
	}
}

// P3.1: Right with lists of any length, those among them whose number of bytes is one of a right reply in its lower 8 or 16 bits alone.
func TestRightByLists(t *testing.T) {
	lengths := []int{65535, 65536, 65537, 65538, 65544, 65661, 65664, 67536}
	for n := range 2300 {
		lengths = append(lengths, n)
	}
	words, bits := wordsOf(70000), bitsOf(70000)
	for _, f := range functions {
		for _, n := range lengths {
			for _, m := range []int{0, 1, n} {
				a := api.Reply{Func: f, Words: words[:n], Bits: bits[:m]}
				b := api.Reply{Func: f, Words: words[:m], Bits: bits[:n]}
				if reply.Right(a) != rightByTable(a) || reply.Right(b) != rightByTable(b) {
					t.Errorf("function %d, lists of %d and %d", f, n, m)
				}
			}
		}
	}
}

// P3.1: fields that a kind doesn't have are zero.
func TestRightByOtherFields(t *testing.T) {
	for _, r := range rights() {
		if !reply.Right(r) {
			t.Fatalf("Right(%v) = false", r)
		}
		for i, x := range others(r) {
			if got := reply.Right(x); got != rightByTable(x) {
				t.Errorf("Right of %v, field %d other = %v", r, i, got)
			}
		}
	}
}

// P3.1, R6: an empty list is no list.
func TestEmptyListsAreNone(t *testing.T) {
	r := api.Reply{Func: 16, Many: 1, Words: []uint16{}, Bits: []bool{}}
	b, e := reply.Bytes(r)
	bare := api.Reply{Func: 16, Many: 1}
	if !reply.Right(r) || e != api.OK || !bytes.Equal(b, []byte{16, 0, 0, 0, 1}) || !reply.Same(r, bare) || !reply.Same(bare, r) {
		t.Error(r, b, e)
	}
	a := api.Ask{Func: 16, Many: 1, Words: []uint16{7}, Bits: []bool{}}
	if !reply.Fits(a, r) {
		t.Error("an empty list doesn't fit")
	}
}

// P3.1: replies are the same if no field differs, right or not.
func TestSame(t *testing.T) {
	l := []api.Reply{
		{}, {Func: 1}, {Func: 129}, {Except: 1}, {Except: 129}, {At: 1}, {At: 257}, {Many: 1}, {Many: 257},
		{Words: []uint16{0}}, {Words: []uint16{0, 0}}, {Words: []uint16{1, 0}}, {Words: []uint16{0, 1}}, {Words: []uint16{0, 257}},
		{Bits: []bool{false}}, {Bits: []bool{true}}, {Bits: []bool{false, false}}, {Bits: []bool{true, false}}, {Bits: []bool{false, true}},
		{Words: []uint16{0}, Bits: []bool{false}}, {Words: []uint16{0}, Bits: []bool{true}}, {Words: []uint16{1}, Bits: []bool{false}},
		{Func: 1, Except: 2, At: 3, Many: 4, Words: []uint16{5}, Bits: []bool{true}}, {Func: 2, Except: 1, At: 3, Many: 4, Words: []uint16{5}, Bits: []bool{true}},
		{Func: 1, Except: 2, At: 4, Many: 3, Words: []uint16{5}, Bits: []bool{true}}, {Func: 1, Except: 2, At: 3, Many: 4, Words: []uint16{5}, Bits: []bool{false}},
	}
	for i, a := range l {
		for k, b := range l {
			b.Words, b.Bits = slices.Clone(b.Words), slices.Clone(b.Bits)
			if got := reply.Same(a, b); got != (i == k) {
				t.Errorf("Same(%v, %v) = %v", a, b, got)
			}
		}
	}
	for _, r := range rights() {
		for i, x := range others(r) {
			if reply.Same(r, x) || reply.Same(x, r) || !reply.Same(x, x) {
				t.Errorf("Same of %v, field %d other", r, i)
			}
		}
	}
}

// P3.1: an exception has the lower seven bits of the function, and its number, whatever they are.
func TestWrong(t *testing.T) {
	for f := range 256 {
		for except := range 256 {
			want := api.Reply{Func: uint8(f & 127), Except: uint8(except)}
			if got := reply.Wrong(uint8(f), uint8(except)); !reply.Same(got, want) {
				t.Errorf("Wrong(%d, %d) = %v", f, except, got)
			}
		}
	}
}

// P3.2: known replies have known bytes, and known bytes are known replies.
func TestKnownReplies(t *testing.T) {
	for _, x := range examples {
		if b, e := reply.Bytes(x.r); e != api.OK || !bytes.Equal(b, x.b) {
			t.Errorf("Bytes(%v) = %v, %d, want %v", x.r, b, e, x.b)
		}
		if r, e := reply.Parse(x.b); e != api.OK || !reply.Same(r, x.r) {
			t.Errorf("Parse(%v) = %v, %d, want %v", x.b, r, e, x.r)
		}
	}
}

// P3.2: a reply that isn't right has no bytes.
func TestBytesOfWrongReplies(t *testing.T) {
	l := []api.Reply{
		{}, {Func: 0}, {Func: 7}, {Func: 128}, {Func: 131}, {Func: 255}, {Func: 128, Except: 1}, {Func: 131, Except: 2}, {Func: 3, Except: 5}, {Func: 3, Except: 255}, {Func: 3, Except: 2, At: 1}, {Func: 3, Except: 2, Words: wordsOf(1)}, {Func: 5, Except: 2, Bits: bitsOf(1)}, {Func: 16, Except: 1, Many: 1},
		{Func: 1}, {Func: 1, Bits: bitsOf(7)}, {Func: 1, Bits: bitsOf(9)}, {Func: 2, Bits: bitsOf(2008)}, {Func: 2, Bits: bitsOf(2048 + 8)}, {Func: 1, Bits: bitsOf(8), At: 1}, {Func: 1, Bits: bitsOf(8), Many: 8}, {Func: 1, Bits: bitsOf(8), Words: wordsOf(1)},
		{Func: 3}, {Func: 4, Words: wordsOf(126)}, {Func: 23, Words: wordsOf(129)}, {Func: 3, Words: wordsOf(65537)}, {Func: 3, Words: wordsOf(1), At: 1}, {Func: 3, Words: wordsOf(1), Many: 1}, {Func: 3, Words: wordsOf(1), Bits: bitsOf(8)}, {Func: 3, Bits: bitsOf(8)},
		{Func: 5}, {Func: 5, Bits: bitsOf(2)}, {Func: 5, Bits: bitsOf(1), Many: 1}, {Func: 5, Words: wordsOf(1)}, {Func: 5, Bits: bitsOf(1), Words: wordsOf(1)}, {Func: 6}, {Func: 6, Words: wordsOf(2)}, {Func: 6, Words: wordsOf(1), Many: 1}, {Func: 6, Bits: bitsOf(1)}, {Func: 6, Words: wordsOf(1), Bits: bitsOf(1)},
		{Func: 15}, {Func: 15, Many: 1969}, {Func: 15, Many: 1, Bits: bitsOf(1)}, {Func: 15, Many: 1, Words: wordsOf(1)}, {Func: 16}, {Func: 16, Many: 124}, {Func: 16, Many: 65535}, {Func: 16, Many: 1, Words: wordsOf(1)}, {Func: 16, Many: 1, Bits: bitsOf(1)}, {Func: 23, Many: 1}, {Func: 23, At: 1, Words: wordsOf(1)},
	}
	for _, r := range l {
		if b, e := reply.Bytes(r); e != api.ErrReply || len(b) != 0 {
			t.Errorf("Bytes of function %d, exception %d, %d words, %d bits = %v, %d, want ErrReply alone", r.Func, r.Except, len(r.Words), len(r.Bits), b, e)
		}
	}
}

// P3.2, P3.4: the bytes of right replies are those of the table, at most 253, and Parse returns the reply; those of the others are none.
func TestParseOfBytes(t *testing.T) {
	greatest := 0
	for _, r := range rights() {
		b, e := reply.Bytes(r)
		if e != api.OK || !bytes.Equal(b, bytesByTable(r)) {
			t.Fatalf("Bytes(%v) = %v, %d", r, b, e)
		}
		if got, e := reply.Parse(b); e != api.OK || !reply.Same(got, r) {
			t.Errorf("Parse of Bytes(%v) = %v, %d", r, got, e)
		}
		greatest = max(greatest, len(b))
		for i, x := range others(r) {
			if b, e := reply.Bytes(x); e == api.OK != rightByTable(x) || e == api.OK && !bytes.Equal(b, bytesByTable(x)) || e != api.OK && (e != api.ErrReply || len(b) > 0) {
				t.Errorf("Bytes of %v, field %d other = %v, %d", r, i, b, e)
			}
		}
	}
	if greatest > 253 || greatest < 252 {
		t.Errorf("the greatest reply has %d bytes", greatest)
	}
}

// P3.4: different replies have different bytes.
func TestDifferentRepliesDiffer(t *testing.T) {
	met := map[string]api.Reply{}
	for _, r := range rights() {
		b, _ := reply.Bytes(r)
		if before, ok := met[string(b)]; ok && !reply.Same(before, r) {
			t.Errorf("%v and %v have the bytes %v", before, r, b)
		}
		met[string(b)] = r
	}
	if len(met) < 1000 {
		t.Errorf("only %d replies", len(met))
	}
}

// meets: Parse says of b what the table does.
func meets(t *testing.T, b []byte) {
	t.Helper()
	want, ok := parsedByTable(b)
	if r, e := reply.Parse(b); !reply.Same(r, want) || e == api.OK != ok || e != api.OK && e != api.ErrReply {
		t.Fatalf("Parse(%v) = %v, %d, want %v", b, r, e, want)
	}
}

// P3.2: known bytes that are no reply.
func TestParseOfNoReply(t *testing.T) {
	for _, b := range [][]byte{
		nil, {}, {0}, {3}, {128}, {131}, {0, 0}, {7, 1}, {127, 2}, {131, 0}, {131, 5}, {131, 2, 0}, {255, 255},
		{1, 0}, {1, 1}, {1, 1, 13, 0}, {1, 2, 13}, {2, 2, 13}, {3, 0}, {3, 1, 0}, {3, 2, 0}, {3, 2, 0, 1, 0}, {3, 3, 0, 1, 2}, {3, 3, 0, 1}, {3, 4, 0, 1}, {3, 2, 0, 1, 0, 1}, {4, 1}, {23, 0}, {23, 2},
		{5, 0, 172, 255, 1}, {5, 0, 172, 254, 0}, {5, 0, 172, 0, 1}, {5, 0, 172, 255}, {5, 0, 172, 255, 0, 0}, {5}, {6, 0, 1, 3}, {6, 0}, {6, 0, 1, 3, 4, 5},
		{15, 0, 19, 0, 0}, {15, 0, 19, 7, 177}, {15, 0, 19, 0}, {15, 0, 19, 0, 1, 0}, {16, 0, 19, 0, 0}, {16, 0, 19, 0, 124}, {16, 0, 19, 1, 1}, {16, 0, 19}, {16, 0, 19, 0, 1, 2, 0, 1},
	} {
		if r, e := reply.Parse(b); e != api.ErrReply || !reply.Same(r, api.Reply{}) {
			t.Errorf("Parse(%v) = %v, %d, want ErrReply alone", b, r, e)
		}
		meets(t, b)
	}
}

// P3.2: all that has up to two bytes, and each first byte with zeros or ones behind it, up to more than any reply has.
func TestParseByFirstBytes(t *testing.T) {
	for f := range 256 {
		meets(t, []byte{byte(f)})
		for n := range 256 {
			meets(t, []byte{byte(f), byte(n)})
		}
		for _, n := range []int{3, 4, 5, 6, 250, 251, 252, 253, 254, 255, 256, 70000} {
			for _, c := range []byte{0, 1, 2, 255} {
				b := bytes.Repeat([]byte{c}, n)
				b[0] = byte(f)
				meets(t, b)
				b[1] = byte(n - 2)
				meets(t, b)
			}
		}
	}
}

// P3.2: the number of the bytes that follow is what follows, whatever the two are.
func TestParseByCounts(t *testing.T) {
	for _, f := range []uint8{1, 2, 3, 4, 23} {
		for count := range 256 {
			for _, n := range []int{count - 1, count, count + 1, count + 256, count + 257, count / 2} {
				meets(t, append([]byte{f, byte(count)}, bytes.Repeat([]byte{7}, max(n, 0))...))
			}
		}
	}
}

// P3.2: each number that is written, and each Many.
func TestParseOfOneValue(t *testing.T) {
	for _, f := range []uint8{5, 6, 15, 16} {
		for v := range 65536 {
			meets(t, append([]byte{f, 0, 172}, double(uint16(v))...))
			meets(t, append(append([]byte{f}, double(uint16(v))...), 0, 0))
		}
	}
}

// P3.2: every byte of a known reply, with every value, and with bytes less and more.
func TestOtherBytes(t *testing.T) {
	for _, x := range examples {
		for i := range x.b {
			meets(t, x.b[:i])
			for c := range 256 {
				b := slices.Clone(x.b)
				b[i] = byte(c)
				meets(t, b)
			}
		}
		for c := range 256 {
			meets(t, append(slices.Clone(x.b), byte(c)))
			meets(t, append(slices.Clone(x.b), byte(c), 0))
		}
	}
}

// P3.2: replies with some bytes that others have, and with some cut off or added; the draw is the same each time.
func TestDrawnBytes(t *testing.T) {
	state, l := uint32(3), rights()
	draw := func(n int) int {
		state = state*1664525 + 1013904223
		return int(state>>8) % n
	}
	for range 20000 {
		b := bytesByTable(l[draw(len(l))])
		for range draw(4) {
			b[draw(min(len(b), 8))] = byte(draw(256) >> draw(8))
		}
		if draw(4) == 0 {
			b = b[:draw(len(b)+1)]
		}
		if draw(4) == 0 {
			b = append(b, bytes.Repeat([]byte{byte(draw(256))}, draw(5))...)
		}
		meets(t, b)
	}
}

// P3.3: what is written is echoed, and nothing else.
func TestEcho(t *testing.T) {
	for _, x := range []struct {
		a    api.Ask
		want api.Reply
		ok   bool
	}{
		{api.Ask{Func: 5, At: 172, Bits: []bool{true}}, api.Reply{Func: 5, At: 172, Bits: []bool{true}}, true},
		{api.Ask{Func: 5, At: 65535, Bits: []bool{false}}, api.Reply{Func: 5, At: 65535, Bits: []bool{false}}, true},
		{api.Ask{Func: 6, At: 258, Words: []uint16{772}}, api.Reply{Func: 6, At: 258, Words: []uint16{772}}, true},
		{api.Ask{Func: 15, At: 19, Many: 10, Bits: bitsOf(10)}, api.Reply{Func: 15, At: 19, Many: 10}, true},
		{api.Ask{Func: 15, Many: 1968, Bits: bitsOf(1968)}, api.Reply{Func: 15, Many: 1968}, true},
		{api.Ask{Func: 16, At: 5, Many: 2, Words: wordsOf(2)}, api.Reply{Func: 16, At: 5, Many: 2}, true},
		{api.Ask{Func: 16, Many: 123, Words: wordsOf(123)}, api.Reply{Func: 16, Many: 123}, true},
		{api.Ask{Func: 1, Many: 8}, api.Reply{}, false}, {api.Ask{Func: 2, Many: 8}, api.Reply{}, false}, {api.Ask{Func: 3, Many: 1}, api.Reply{}, false}, {api.Ask{Func: 4, Many: 1}, api.Reply{}, false},
		{api.Ask{Func: 23, Many: 1, Words: wordsOf(1)}, api.Reply{}, false},
		{api.Ask{}, api.Reply{}, false}, {api.Ask{Func: 5}, api.Reply{}, false}, {api.Ask{Func: 5, Bits: bitsOf(2)}, api.Reply{}, false}, {api.Ask{Func: 5, Many: 1, Bits: bitsOf(1)}, api.Reply{}, false},
		{api.Ask{Func: 6}, api.Reply{}, false}, {api.Ask{Func: 6, Words: wordsOf(2)}, api.Reply{}, false}, {api.Ask{Func: 6, Words: wordsOf(1), To: 1}, api.Reply{}, false},
		{api.Ask{Func: 15, Many: 1969, Bits: bitsOf(1969)}, api.Reply{}, false}, {api.Ask{Func: 15, Many: 2, Bits: bitsOf(1)}, api.Reply{}, false},
		{api.Ask{Func: 16, Many: 124, Words: wordsOf(124)}, api.Reply{}, false}, {api.Ask{Func: 16, Many: 1}, api.Reply{}, false}, {api.Ask{Func: 144, Many: 1, Words: wordsOf(1)}, api.Reply{}, false},
	} {
		if got, ok := reply.Echo(x.a); ok != x.ok || !reply.Same(got, x.want) {
			t.Errorf("Echo(%v) = %v, %v, want %v, %v", x.a, got, ok, x.want, x.ok)
		}
	}
}

// P3.3: known replies fit known requests.
func TestKnownFits(t *testing.T) {
	ten := make([]bool, 16)
	for i := range 10 {
		ten[i] = true
	}
	more := slices.Clone(ten)
	more[10] = true
	last := slices.Clone(ten)
	last[15] = true
	bits := api.Ask{Func: 1, At: 3, Many: 10}
	words := api.Ask{Func: 4, At: 7, Many: 2}
	swap := api.Ask{Func: 23, At: 7, Many: 2, To: 1, Words: wordsOf(3)}
	one := api.Ask{Func: 5, At: 172, Bits: []bool{true}}
	for i, x := range []struct {
		a    api.Ask
		r    api.Reply
		want bool
	}{
		{bits, api.Reply{Func: 1, Bits: ten}, true}, {bits, api.Reply{Func: 1, Bits: make([]bool, 16)}, true},
		{bits, api.Reply{Func: 1, Bits: more}, false}, {bits, api.Reply{Func: 1, Bits: last}, false}, {bits, api.Reply{Func: 2, Bits: ten}, false},
		{bits, api.Reply{Func: 1, Bits: ten[:8]}, false}, {bits, api.Reply{Func: 1, Bits: ten[:10]}, false}, {bits, api.Reply{Func: 1, Bits: make([]bool, 24)}, false},
		{api.Ask{Func: 1, Many: 16}, api.Reply{Func: 1, Bits: last}, true}, {api.Ask{Func: 1, Many: 2001}, api.Reply{Func: 1, Bits: make([]bool, 2000)}, false},
		{words, api.Reply{Func: 4, Words: wordsOf(2)}, true}, {words, api.Reply{Func: 4, Words: wordsOf(1)}, false}, {words, api.Reply{Func: 4, Words: wordsOf(3)}, false}, {words, api.Reply{Func: 3, Words: wordsOf(2)}, false},
		{swap, api.Reply{Func: 23, Words: wordsOf(2)}, true}, {swap, api.Reply{Func: 23, Words: wordsOf(3)}, false}, {swap, api.Reply{Func: 23, Except: 2}, true},
		{one, api.Reply{Func: 5, At: 172, Bits: []bool{true}}, true}, {one, api.Reply{Func: 5, At: 172, Bits: []bool{false}}, false}, {one, api.Reply{Func: 5, At: 173, Bits: []bool{true}}, false},
		{words, api.Reply{Func: 4, Except: 1}, true}, {words, api.Reply{Func: 4, Except: 4}, true}, {words, api.Reply{Func: 4, Except: 5}, false}, {words, api.Reply{Func: 3, Except: 1}, false}, {words, api.Reply{Func: 132, Except: 1}, false},
		{words, api.Reply{Func: 4, Except: 1, Words: wordsOf(2)}, false}, {words, api.Reply{Func: 4, At: 7, Words: wordsOf(2)}, false}, {words, api.Reply{Func: 4}, false},
		{api.Ask{}, api.Reply{Except: 1}, false}, {api.Ask{Func: 7}, api.Reply{Func: 7, Except: 1}, false}, {api.Ask{Func: 4}, api.Reply{Func: 4, Except: 3}, false}, {api.Ask{}, api.Reply{}, false},
	} {
		if got := reply.Fits(x.a, x.r); got != x.want {
			t.Errorf("%d: Fits(%v, %v) = %v", i, x.a, x.r, got)
		}
	}
}

// P3.3, P3.4: each request with each reply: an echo fits, and beside it exceptions alone; all exceptions with the function do.
func TestFits(t *testing.T) {
	l := rights()
	for _, a := range requests() {
		echo, ok := reply.Echo(a)
		if ok && (!reply.Right(echo) || !reply.Fits(a, echo) || !fitsByTerms(a, echo)) {
			t.Errorf("the echo %v doesn't fit %v", echo, a)
		}
		for _, r := range l {
			got := reply.Fits(a, r)
			if got != fitsByTerms(a, r) {
				t.Fatalf("Fits(%v, %v) = %v", a, r, got)
			}
			if ok && got != (r.Func == a.Func && (r.Except > 0 || reply.Same(r, echo))) {
				t.Fatalf("Fits(%v, %v) = %v, with the echo %v", a, r, got, echo)
			}
		}
		for _, x := range others(echo) {
			if got := reply.Fits(a, x); got != fitsByTerms(a, x) {
				t.Errorf("Fits(%v, %v) = %v", a, x, got)
			}
		}
	}
}

// P3.3: of bits that are read, those beyond the ones that were asked for are off, each of them.
func TestFitsByBits(t *testing.T) {
	for _, f := range []uint8{1, 2} {
		for many := 1; many <= 2000; many++ {
			a := api.Ask{Func: f, Many: uint16(many)}
			n := (many + 7) / 8 * 8
			for i := max(0, n-9); i < n; i++ {
				l := make([]bool, n)
				l[i] = true
				if got := reply.Fits(a, api.Reply{Func: f, Bits: l}); got != (i < many) {
					t.Fatalf("%d bits are read, and bit %d is on: %v", many, i, got)
				}
			}
			if reply.Fits(a, api.Reply{Func: f, Bits: make([]bool, n-8)}) || reply.Fits(a, api.Reply{Func: f, Bits: make([]bool, n+8)}) {
				t.Fatalf("%d bits are read: another number fits", many)
			}
		}
	}
}

// R3: no argument changes, its spare capacity neither.
func TestArgumentsStay(t *testing.T) {
	words, bits := wordsOf(130), bitsOf(2100)
	for _, r := range []api.Reply{
		{Func: 3, Words: words[:3]}, {Func: 23, Words: words[:125]}, {Func: 6, At: 1, Words: words[:1]}, {Func: 3, Words: words[:126]},
		{Func: 5, Bits: bits[:1]}, {Func: 1, Bits: bits[:8]}, {Func: 2, Bits: bits[:2000]}, {Func: 1, Bits: bits[:9]}, {Func: 9, Words: words[:2], Bits: bits[:2]},
	} {
		a := api.Ask{Func: r.Func, At: r.At, Many: uint16(len(r.Words) + len(r.Bits)), Words: r.Words, Bits: r.Bits}
		for _, a := range []api.Ask{a, {Func: a.Func, Many: a.Many}, {Func: a.Func, Words: a.Words, Bits: a.Bits}} {
			reply.Right(r)
			reply.Same(r, r)
			reply.Bytes(r)
			reply.Fits(a, r)
			reply.Echo(a)
		}
		if !slices.Equal(words, wordsOf(130)) || !slices.Equal(bits, bitsOf(2100)) {
			t.Fatalf("function %d: an argument changed", r.Func)
		}
	}
	for _, x := range examples {
		b := append(slices.Clone(x.b), 9, 9, 9, 9)
		before := slices.Clone(b)
		for n := range b {
			reply.Parse(b[:n])
		}
		if !bytes.Equal(b, before) {
			t.Fatalf("%v became %v", before, b)
		}
	}
}

// fill: writes c to all elements of l, spare ones too.
func fill[E any](l []E, c E) {
	l = l[:cap(l)]
	for i := range l {
		l[i] = c
	}
}

// R3: results are new memory, spare capacity and all.
func TestResultsAreNew(t *testing.T) {
	for _, x := range examples {
		b, _ := reply.Bytes(x.r)
		again, _ := reply.Bytes(x.r)
		fill(again, 170)
		first, _ := reply.Parse(b)
		second, _ := reply.Parse(b)
		fill(second.Words, 43690)
		fill(second.Bits, true)
		fill(second.Bits, false)
		if r, _ := parsedByTable(x.b); !reply.Same(first, r) || !reply.Same(x.r, r) || !bytes.Equal(b, x.b) {
			t.Fatalf("what function %d answers is shared", x.r.Func)
		}
	}
	for _, a := range []api.Ask{{Func: 5, Bits: append(make([]bool, 0, 4), true)}, {Func: 6, Words: append(make([]uint16, 0, 4), 7)}} {
		first, _ := reply.Echo(a)
		second, _ := reply.Echo(a)
		fill(second.Words, 9)
		fill(second.Bits, false)
		if !reply.Same(first, api.Reply{Func: a.Func, Bits: a.Bits, Words: a.Words}) || len(a.Bits) > 0 && !a.Bits[0] || len(a.Words) > 0 && a.Words[0] != 7 {
			t.Errorf("the echo of function %d is shared", a.Func)
		}
	}
}

// R4: a call hangs on its arguments alone, whatever was called before, and by whom.
func TestCallsAreAlike(t *testing.T) {
	done := make(chan bool)
	l := rights()
	for range 8 {
		go func() {
			ok := true
			for _, r := range l {
				b, _ := reply.Bytes(r)
				got, e := reply.Parse(b)
				ok = ok && e == api.OK && reply.Same(got, r)
			}
			done <- ok
		}()
	}
	for range 8 {
		if !<-done {
			t.Error("a call went another way beside others")
		}
	}
}
