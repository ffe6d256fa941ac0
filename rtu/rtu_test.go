package rtu_test

import (
	"bytes"
	"slices"
	"testing"

	"saucier/api"
	"saucier/ask"
	"saucier/reply"
	"saucier/rtu"
)

// slowSum: the check sum of b, in the words of chapter 1, bit by bit.
func slowSum(b []byte) uint16 {
	sum := uint16(65535)
	for _, c := range b {
		sum ^= uint16(c)
		for range 8 {
			out := sum & 1
			sum >>= 1
			if out == 1 {
				sum ^= 40961
			}
		}
	}
	return sum
}

// summed: b with its check sum behind it, in memory without anything to spare.
func summed(b ...byte) []byte {
	sum := slowSum(b)
	out := make([]byte, len(b)+2)
	copy(out, b)
	out[len(b)], out[len(b)+1] = byte(sum%256), byte(sum/256)
	return out
}

// framed: the frame with a unit and a PDU, by the words of the chapter.
func framed(unit int, pdu ...byte) []byte {
	return summed(append([]byte{byte(unit)}, pdu...)...)
}

// sample: n bytes of a short rule, so that no two samples look alike.
func sample(n int) []byte {
	b := make([]byte, n)
	x := uint32(n) + 1
	for i := range b {
		x = x*1664525 + 1013904223
		b[i] = byte(x >> 24)
	}
	return b
}

// isUnit: is n from 1 to 247?
func isUnit(n int) bool { return n >= 1 && n <= 247 }

// lengths: of PDUs, and of frames: those around all ranges, and those that have a right length in their lower 8 or 16 bits alone.
func lengths() []int {
	l := []int{65535, 65536, 65537, 65540, 65536 + 253, 65536 + 256, 100000}
	for n := range 540 {
		l = append(l, n)
	}
	return l
}

// asks: right requests of all functions, and their bytes, worked out by hand.
var asks = []struct {
	a api.Ask
	b []byte
}{
	{api.Ask{Func: 1, At: 19, Many: 37}, []byte{1, 0, 19, 0, 37}},
	{api.Ask{Func: 2, At: 65535, Many: 2000}, []byte{2, 255, 255, 7, 208}},
	{api.Ask{Func: 3, Many: 10}, []byte{3, 0, 0, 0, 10}},
	{api.Ask{Func: 3, At: 107, Many: 3}, []byte{3, 0, 107, 0, 3}},
	{api.Ask{Func: 4, At: 8, Many: 1}, []byte{4, 0, 8, 0, 1}},
	{api.Ask{Func: 5, At: 172, Bits: []bool{true}}, []byte{5, 0, 172, 255, 0}},
	{api.Ask{Func: 6, At: 1, Words: []uint16{3}}, []byte{6, 0, 1, 0, 3}},
	{api.Ask{Func: 15, At: 19, Many: 4, Bits: []bool{true, false, true, true}}, []byte{15, 0, 19, 0, 4, 1, 13}},
	{api.Ask{Func: 16, At: 1, Many: 2, Words: []uint16{10, 258}}, []byte{16, 0, 1, 0, 2, 4, 0, 10, 1, 2}},
	{api.Ask{Func: 23, At: 3, Many: 6, To: 14, Words: []uint16{255}}, []byte{23, 0, 3, 0, 6, 0, 14, 0, 1, 2, 0, 255}},
}

// wrongAsks: requests that are not right.
func wrongAsks() []api.Ask {
	return []api.Ask{
		{}, {Func: 3}, {Func: 7, Many: 1}, {Func: 131, Many: 1}, {Func: 1, Many: 2001}, {Func: 3, Many: 126}, {Func: 3, Many: 1, To: 1}, {Func: 3, Many: 1, Words: []uint16{1}},
		{Func: 5}, {Func: 5, Bits: []bool{true, true}}, {Func: 6}, {Func: 6, Many: 1, Words: []uint16{1}}, {Func: 15, Many: 2, Bits: []bool{true}}, {Func: 16, Many: 124, Words: make([]uint16, 124)}, {Func: 23, Many: 1, Words: make([]uint16, 122)},
	}
}

// replies: right replies of all kinds, and their bytes, worked out by hand.
var replies = []struct {
	r api.Reply
	b []byte
}{
	{api.Reply{Func: 3, Except: 2}, []byte{131, 2}},
	{api.Reply{Func: 0, Except: 1}, []byte{128, 1}},
	{api.Reply{Func: 127, Except: 4}, []byte{255, 4}},
	{api.Reply{Func: 1, Bits: []bool{true, false, true, true, false, false, false, false}}, []byte{1, 1, 13}},
	{api.Reply{Func: 3, Words: []uint16{258}}, []byte{3, 2, 1, 2}},
	{api.Reply{Func: 4, Words: []uint16{1, 258}}, []byte{4, 4, 0, 1, 1, 2}},
	{api.Reply{Func: 5, At: 172, Bits: []bool{true}}, []byte{5, 0, 172, 255, 0}},
	{api.Reply{Func: 6, At: 258, Words: []uint16{772}}, []byte{6, 1, 2, 3, 4}},
	{api.Reply{Func: 15, At: 19, Many: 10}, []byte{15, 0, 19, 0, 10}},
	{api.Reply{Func: 16, At: 258, Many: 123}, []byte{16, 1, 2, 0, 123}},
	{api.Reply{Func: 23, Words: []uint16{254, 2765}}, []byte{23, 4, 0, 254, 10, 205}},
}

// noReplies: PDUs that are no reply.
func noReplies() [][]byte {
	return [][]byte{
		{0}, {3}, {131}, {7, 1}, {131, 0}, {131, 5}, {131, 2, 0}, {3, 3, 1, 2}, {3, 2, 1}, {3, 2, 1, 2, 3}, {3, 0, 107, 0, 3}, {1, 2, 13}, {5, 0, 172, 255, 1}, {6, 0, 1, 3}, {15, 0, 19, 0, 0}, {16, 0, 19, 0, 124}, make([]byte, 253), sample(253),
	}
}

// bytesMeet: Bytes says of a unit and a PDU what the chapter does.
func bytesMeet(t *testing.T, unit int, pdu []byte) {
	t.Helper()
	var want []byte
	e := api.ErrArg
	if isUnit(unit) && len(pdu) >= 1 && len(pdu) <= 253 {
		want, e = framed(unit, pdu...), api.OK
	}
	if got, err := rtu.Bytes(uint8(unit), pdu); err != e || !bytes.Equal(got, want) {
		t.Fatalf("Bytes(%d, %d bytes) = %v, %d, want %v, %d", unit, len(pdu), got, err, want, e)
	}
}

// parsed: what the chapter says of the bytes b.
func parsed(b []byte) (uint8, []byte, api.Errno) {
	n := len(b)
	if n < 4 || n > 256 {
		return 0, nil, api.ErrFrame
	}
	if !bytes.Equal(summed(b[:n-2]...), b) {
		return 0, nil, api.ErrCheck
	}
	if !isUnit(int(b[0])) {
		return 0, nil, api.ErrFrame
	}
	return b[0], b[1 : n-2], api.OK
}

// parseMeets: Parse says of b what the chapter does.
func parseMeets(t *testing.T, b []byte) {
	t.Helper()
	unit, pdu, e := parsed(b)
	if u, p, err := rtu.Parse(b); u != unit || err != e || !bytes.Equal(p, pdu) {
		t.Fatalf("Parse(%v) = %d, %v, %d, want %d, %v, %d", b, u, p, err, unit, pdu, e)
	}
}

// P4.1: known frames, there and back.
func TestKnownFrames(t *testing.T) {
	for _, x := range []struct {
		unit uint8
		pdu  []byte
		want []byte
	}{
		{1, []byte{3, 0, 0, 0, 10}, []byte{1, 3, 0, 0, 0, 10, 197, 205}},
		{1, []byte{131, 2}, []byte{1, 131, 2, 192, 241}},
		{2, []byte{7}, []byte{2, 7, 65, 18}},
		{'1', []byte("23456789"), []byte{'1', '2', '3', '4', '5', '6', '7', '8', '9', 55, 75}},
		{17, []byte{3, 0, 107, 0, 3}, []byte{17, 3, 0, 107, 0, 3, 118, 135}},
	} {
		if got, e := rtu.Bytes(x.unit, x.pdu); e != api.OK || !bytes.Equal(got, x.want) {
			t.Errorf("Bytes(%d, %v) = %v, %d, want %v", x.unit, x.pdu, got, e, x.want)
		}
		if u, p, e := rtu.Parse(x.want); e != api.OK || u != x.unit || !bytes.Equal(p, x.pdu) {
			t.Errorf("Parse(%v) = %d, %v, %d, want %d, %v", x.want, u, p, e, x.unit, x.pdu)
		}
	}
}

// P4.1: every unit, and what is none, with PDUs of all lengths.
func TestBytesByUnitsAndLengths(t *testing.T) {
	whole := sample(100000)
	for unit := range 256 {
		for _, n := range []int{0, 1, 2, 3, 5, 127, 252, 253, 254, 255, 256, 257, 65537} {
			bytesMeet(t, unit, whole[:n])
		}
	}
	for _, n := range lengths() {
		for _, unit := range []int{0, 1, 2, 128, 246, 247, 248, 255} {
			bytesMeet(t, unit, whole[:n])
			bytesMeet(t, unit, make([]byte, n))
		}
	}
	bytesMeet(t, 1, nil)
	bytesMeet(t, 0, nil)
}

// P4.1: every byte of a PDU is taken as it is, and none is special.
func TestBytesByPDUs(t *testing.T) {
	for c := range 256 {
		bytesMeet(t, 9, []byte{byte(c)})
		for d := range 256 {
			bytesMeet(t, 247, []byte{byte(c), byte(d)})
		}
	}
}

// P4.1: frames with a right check sum, of all units and lengths.
func TestParseByUnitsAndLengths(t *testing.T) {
	whole := sample(100000)
	for unit := range 256 {
		for _, n := range []int{0, 1, 2, 3, 5, 127, 252, 253, 254, 255, 256, 257} {
			parseMeets(t, framed(unit, whole[:n]...))
		}
	}
	for _, n := range lengths() {
		for _, unit := range []int{0, 1, 247, 248, 255} {
			parseMeets(t, framed(unit, whole[:n]...))
			parseMeets(t, framed(unit, make([]byte, n)...))
		}
	}
}

// P4.1: bytes that are too few or too many are no frame, whether their check sum is right or not; of the others one with a wrong one is met as such, whatever its unit is.
func TestParseOrderOfErrors(t *testing.T) {
	for _, x := range []struct {
		b    []byte
		want api.Errno
	}{
		{nil, api.ErrFrame}, {[]byte{}, api.ErrFrame}, {[]byte{1}, api.ErrFrame}, {[]byte{255, 255}, api.ErrFrame}, {summed(1), api.ErrFrame}, {[]byte{1, 2, 3}, api.ErrFrame}, {make([]byte, 3), api.ErrFrame},
		{framed(1, sample(253)...), api.OK}, {framed(1, sample(254)...), api.ErrFrame}, {sample(257), api.ErrFrame}, {make([]byte, 257), api.ErrFrame}, {sample(65540), api.ErrFrame},
		{make([]byte, 4), api.ErrCheck}, {make([]byte, 256), api.ErrCheck}, {sample(256), api.ErrCheck}, {sample(4), api.ErrCheck},
		{[]byte{2, 7, 18, 65}, api.ErrCheck}, {[]byte{2, 7, 65, 19}, api.ErrCheck}, {[]byte{2, 7, 64, 18}, api.ErrCheck}, {[]byte{7, 2, 65, 18}, api.ErrCheck}, {[]byte{1, 3, 0, 0, 0, 10, 197, 204}, api.ErrCheck}, {[]byte{1, 3, 0, 0, 0, 10, 205, 197}, api.ErrCheck}, {[]byte{1, 3, 0, 0, 0, 10, 197}, api.ErrCheck}, {[]byte{1, 3, 0, 0, 0, 10, 197, 205, 1}, api.ErrCheck}, {[]byte{3, 0, 0, 0, 10, 197, 205}, api.ErrCheck},
		{[]byte{0, 7, 0, 0}, api.ErrCheck}, {[]byte{248, 7, 0, 0}, api.ErrCheck}, {[]byte{255, 255, 255, 255}, api.ErrCheck},
		{framed(0, 7), api.ErrFrame}, {framed(248, 7), api.ErrFrame}, {framed(255, 7), api.ErrFrame}, {framed(0, sample(253)...), api.ErrFrame}, {framed(1, 7), api.OK}, {framed(247, 7), api.OK},
	} {
		if u, p, e := rtu.Parse(x.b); e != x.want || e != api.OK && (u != 0 || len(p) > 0) {
			t.Errorf("Parse(%v) = %d, %v, %d, want %d", x.b, u, p, e, x.want)
		}
		parseMeets(t, x.b)
	}
}

// P4.1: behind a unit and a PDU exactly one pair of bytes is the check sum.
func TestParseTakesOneSumOnly(t *testing.T) {
	for _, body := range [][]byte{{2, 7}, {1, 3, 0, 0, 0, 10}, {0, 7}, {248, 131, 2}} {
		for tail := range 65536 {
			parseMeets(t, append(bytes.Clone(body), byte(tail), byte(tail>>8)))
		}
	}
}

// P4.2: the frame of a request has its bytes, for every unit.
func TestAskFrames(t *testing.T) {
	for _, x := range asks {
		for unit := 1; unit <= 247; unit++ {
			if b, e := rtu.Ask(uint8(unit), x.a); e != api.OK || !bytes.Equal(b, framed(unit, x.b...)) {
				t.Fatalf("Ask(%d, %v) = %v, %d", unit, x.a, b, e)
			}
		}
	}
	if b, e := rtu.Ask(1, api.Ask{Func: 3, Many: 10}); e != api.OK || !bytes.Equal(b, []byte{1, 3, 0, 0, 0, 10, 197, 205}) {
		t.Error(b, e)
	}
}

// P4.2: the longest requests have frames, as their PDUs have at most 253 bytes.
func TestAskLongest(t *testing.T) {
	for _, a := range []api.Ask{
		{Func: 15, Many: 1968, Bits: make([]bool, 1968)}, {Func: 16, Many: 123, Words: make([]uint16, 123)}, {Func: 23, Many: 125, Words: make([]uint16, 121)},
	} {
		pdu, e := ask.Bytes(a)
		if e != api.OK {
			t.Fatal(a.Func, e)
		}
		if b, e := rtu.Ask(247, a); e != api.OK || !bytes.Equal(b, framed(247, pdu...)) {
			t.Errorf("Ask of function %d: %d bytes, %d", a.Func, len(b), e)
		}
	}
}

// P4.2: a request that isn't right has no frame, and is met ahead of what is no unit.
func TestAskWrong(t *testing.T) {
	for unit := range 256 {
		for _, a := range wrongAsks() {
			if b, e := rtu.Ask(uint8(unit), a); e != api.ErrAsk || len(b) > 0 {
				t.Fatalf("Ask(%d, %v) = %v, %d, want ErrAsk alone", unit, a, b, e)
			}
		}
	}
	for _, unit := range []uint8{0, 248, 249, 250, 251, 252, 253, 254, 255} {
		for _, x := range asks {
			if b, e := rtu.Ask(unit, x.a); e != api.ErrArg || len(b) > 0 {
				t.Errorf("Ask(%d, %v) = %v, %d, want ErrArg alone", unit, x.a, b, e)
			}
		}
	}
}

// replyMeets: Reply says of a unit and b that it is the reply r, or the error.
func replyMeets(t *testing.T, unit int, b []byte, r api.Reply, e api.Errno) {
	t.Helper()
	if got, err := rtu.Reply(uint8(unit), b); err != e || !reply.Same(got, r) {
		t.Fatalf("Reply(%d, %v) = %v, %d, want %v, %d", unit, b, got, err, r, e)
	}
}

// P4.2: a reply in a frame is taken for its own unit, and for no other.
func TestReplyByUnits(t *testing.T) {
	for from := 1; from <= 247; from++ {
		for i, x := range replies {
			b := framed(from, x.b...)
			replyMeets(t, from, b, x.r, api.OK)
			for unit := range 256 {
				if unit != from && (i == 0 || from < 3 || from > 245) {
					replyMeets(t, unit, b, api.Reply{}, api.ErrFrame)
				}
			}
		}
	}
	example := []byte{1, 131, 2, 192, 241}
	replyMeets(t, 1, example, api.Reply{Func: 3, Except: 2}, api.OK)
	replyMeets(t, 2, example, api.Reply{}, api.ErrFrame)
}

// P4.2: the longest replies are taken, too.
func TestReplyLongest(t *testing.T) {
	for _, r := range []api.Reply{{Func: 3, Words: make([]uint16, 125)}, {Func: 1, Bits: make([]bool, 2000)}} {
		pdu, e := reply.Bytes(r)
		if e != api.OK {
			t.Fatal(r.Func, e)
		}
		replyMeets(t, 247, framed(247, pdu...), r, api.OK)
	}
}

// P4.2: the errors of Parse come first, then another unit, then a PDU that is no reply.
func TestReplyOrderOfErrors(t *testing.T) {
	for unit := range 256 {
		for _, b := range [][]byte{nil, {}, {1}, summed(1), {1, 2, 3}, make([]byte, 257), framed(1, make([]byte, 254)...), framed(unit, make([]byte, 254)...), framed(0, 131, 2), framed(248, 131, 2), framed(255, 3, 2, 1, 2), framed(0, 0)} {
			replyMeets(t, unit, b, api.Reply{}, api.ErrFrame)
		}
		for _, b := range [][]byte{{1, 131, 2, 192, 240}, {1, 131, 2, 241, 192}, {byte(unit), 131, 2, 0, 0, 0}, {0, 131, 2, 0, 0}, make([]byte, 4), make([]byte, 256)} {
			replyMeets(t, unit, b, api.Reply{}, api.ErrCheck)
		}
		for _, pdu := range noReplies() {
			replyMeets(t, unit, framed(9, pdu...), api.Reply{}, map[bool]api.Errno{true: api.ErrReply, false: api.ErrFrame}[unit == 9])
			if isUnit(unit) {
				replyMeets(t, unit, framed(unit, pdu...), api.Reply{}, api.ErrReply)
			}
		}
	}
}

// P4.2: what a PDU of two bytes is, is what layer 3 says.
func TestReplyByPDUs(t *testing.T) {
	for c := range 256 {
		for d := range 256 {
			r, e := reply.Parse([]byte{byte(c), byte(d)})
			replyMeets(t, 7, framed(7, byte(c), byte(d)), r, e)
		}
	}
}

// P4.3: what is framed is parsed again.
func TestParseOfBytes(t *testing.T) {
	for unit := 1; unit <= 247; unit++ {
		for n := 1; n <= 253; n++ {
			pdu := sample(n)
			b, e := rtu.Bytes(uint8(unit), pdu)
			if e != api.OK || len(b) != n+3 {
				t.Fatalf("Bytes(%d, %d bytes): %d bytes, %d", unit, n, len(b), e)
			}
			if u, p, e := rtu.Parse(b); e != api.OK || int(u) != unit || !bytes.Equal(p, pdu) {
				t.Fatalf("Parse of Bytes(%d, %d bytes) = %d, %d bytes, %d", unit, n, u, len(p), e)
			}
		}
	}
}

// turn: inverts the bits of pattern in b, from bit at on (those of a byte from its lowest one up).
func turn(b []byte, at int, pattern uint16) {
	for i := range 16 {
		if pattern>>i&1 == 1 {
			b[(at+i)/8] ^= 1 << ((at + i) % 8)
		}
	}
}

// turnedIsMet: neither Parse nor Reply takes b with these bits inverted.
func turnedIsMet(t *testing.T, b []byte, at int, pattern uint16) {
	t.Helper()
	turn(b, at, pattern)
	if u, p, e := rtu.Parse(b); e == api.OK || u != 0 || len(p) > 0 {
		t.Fatalf("Parse(%v) = %d, %v, %d, want an error alone", b, u, p, e)
	}
	if r, e := rtu.Reply(1, b); e == api.OK || !reply.Same(r, api.Reply{}) {
		t.Fatalf("Reply(1, %v) = %v, %d, want an error alone", b, r, e)
	}
	turn(b, at, pattern)
}

// P4.3: all ways of inverting bits within 16 neighbouring ones, at all places, are met.
func TestTurnedBitsAreMet(t *testing.T) {
	for _, b := range [][]byte{framed(1, 7), framed(1, 131, 2), framed(1, 3, 0, 0, 0, 10)} {
		for at := range 8*len(b) - 15 {
			for pattern := 1; pattern < 65536; pattern++ {
				turnedIsMet(t, b, at, uint16(pattern))
			}
		}
	}
}

// P4.3: in the longest frame, too: those at all places that the check sum is made of, or that stand alone.
func TestTurnedBitsAreMetInLongFrames(t *testing.T) {
	for _, b := range [][]byte{framed(1, sample(253)...), framed(1, append([]byte{3, 250}, make([]byte, 250)...)...)} {
		for at := range 8*len(b) - 15 {
			for _, pattern := range []uint16{1, 3, 0x8001, 0xA001, 0xC002, 0xFFFF, 0x5555, 0x1021} {
				turnedIsMet(t, b, at, pattern)
			}
		}
	}
}

// R3: no argument changes, its spare capacity neither.
func TestArgumentsStay(t *testing.T) {
	for _, frame := range [][]byte{framed(1, 3, 2, 1, 2), framed(0, 7), framed(9, 131, 2), framed(247, sample(253)...)} {
		whole := append(frame, 9, 9, 9, 9, 9)
		before := bytes.Clone(whole)
		for n := range len(whole) + 1 {
			rtu.Parse(whole[:n])
			rtu.Reply(whole[0], whole[:n])
			rtu.Bytes(whole[0], whole[:n])
			rtu.Bytes(whole[0], whole[min(1, n):n])
			if !bytes.Equal(whole, before) {
				t.Fatalf("with %d bytes %v became %v", n, before, whole)
			}
		}
	}
	words, bits := []uint16{1, 2, 3, 4}, []bool{true, false, true, true}
	for _, a := range []api.Ask{{Func: 16, Many: 2, Words: words[:2]}, {Func: 6, Words: words[:1]}, {Func: 23, Many: 1, Words: words[:3]}, {Func: 15, Many: 3, Bits: bits[:3]}, {Func: 5, Bits: bits[:1]}, {Func: 15, Many: 3, Bits: bits[:2]}} {
		rtu.Ask(1, a)
		rtu.Ask(0, a)
		if !slices.Equal(words, []uint16{1, 2, 3, 4}) || !slices.Equal(bits, []bool{true, false, true, true}) {
			t.Fatalf("function %d: the request changed", a.Func)
		}
	}
}

// fill: writes c to all elements of l, spare ones too.
func fill[E any](l []E, c E) {
	l = l[:cap(l)]
	for i := range l {
		l[i] = c
	}
}

// R3: results are new memory, spare capacity and all.
func TestResultsAreNew(t *testing.T) {
	for _, x := range replies {
		want := framed(1, x.b...)
		pdu := append(bytes.Clone(x.b), 9, 9, 9)
		first, _ := rtu.Bytes(1, pdu[:len(x.b)])
		again, _ := rtu.Bytes(1, pdu[:len(x.b)])
		fill(again, 170)
		frame := append(bytes.Clone(want), 9, 9, 9)
		_, one, _ := rtu.Parse(frame[:len(want)])
		_, two, _ := rtu.Parse(frame[:len(want)])
		fill(two, 170)
		r, _ := rtu.Reply(1, frame[:len(want)])
		s, _ := rtu.Reply(1, frame[:len(want)])
		fill(s.Words, 43690)
		fill(s.Bits, true)
		fill(s.Bits, false)
		if !bytes.Equal(first, want) || !bytes.Equal(one, x.b) || !reply.Same(r, x.r) {
			t.Fatalf("what is answered of %v is shared", x.b)
		}
		if !bytes.Equal(pdu, append(bytes.Clone(x.b), 9, 9, 9)) || !bytes.Equal(frame, append(bytes.Clone(want), 9, 9, 9)) {
			t.Fatalf("what is answered of %v is the argument's", x.b)
		}
	}
	for _, x := range asks {
		a, _ := rtu.Ask(1, x.a)
		b, _ := rtu.Ask(1, x.a)
		fill(b, 170)
		if !bytes.Equal(a, framed(1, x.b...)) {
			t.Fatalf("what is answered of %v is shared", x.a)
		}
	}
}

// Ways: a PDU that is cut off has nothing to spare, so that an append to it goes elsewhere.
func TestParseCutsOff(t *testing.T) {
	for n := 1; n <= 253; n++ {
		_, pdu, e := rtu.Parse(framed(5, sample(n)...))
		if e != api.OK || len(pdu) != n || cap(pdu) != n {
			t.Errorf("a PDU of %d bytes: %d of %d, %d", n, len(pdu), cap(pdu), e)
		}
	}
}

// R4: a call hangs on its arguments alone, whatever was called before, and by whom.
func TestCallsAreAlike(t *testing.T) {
	done := make(chan bool)
	for i := range 8 {
		go func() {
			ok := true
			for n := 1; n <= 253; n++ {
				b, e := rtu.Bytes(uint8(i+1), sample(n))
				u, p, f := rtu.Parse(b)
				_, g := rtu.Reply(uint8(i+1), framed(i+2, 131, 2))
				ok = ok && e == api.OK && f == api.OK && g == api.ErrFrame && int(u) == i+1 && bytes.Equal(p, sample(n)) && bytes.Equal(b, framed(i+1, sample(n)...))
			}
			done <- ok
		}()
	}
	for range 8 {
		if !<-done {
			t.Error("calls beside one another answer otherwise")
		}
	}
}
