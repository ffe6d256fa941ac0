package mbap_test

import (
	"bytes"
	"slices"
	"testing"

	"saucier/api"
	"saucier/mbap"
)

// packed: the bytes of a right frame, by the words of the chapter, in memory without anything to spare.
func packed(x api.Mbap) []byte {
	n := len(x.PDU) + 1
	b := make([]byte, 7+len(x.PDU))
	copy(b, []byte{byte(x.Tx / 256), byte(x.Tx % 256), 0, 0, byte(n / 256), byte(n % 256), x.Unit})
	copy(b[7:], x.PDU)
	return b
}

// framed: the bytes of a frame with a PDU.
func framed(tx, unit int, pdu ...byte) []byte {
	return packed(api.Mbap{Tx: uint16(tx), Unit: uint8(unit), PDU: pdu})
}

// same: are all fields of a and b the same?
func same(a, b api.Mbap) bool {
	return a.Tx == b.Tx && a.Unit == b.Unit && bytes.Equal(a.PDU, b.PDU)
}

// sample: n bytes of a short rule, so that no two samples look alike.
func sample(n int) []byte {
	b := make([]byte, n)
	x := uint32(n) + 1
	for i := range b {
		x = x*1664525 + 1013904223
		b[i] = byte(x >> 24)
	}
	return b
}

// lengths: of PDUs: those around all ranges, and those that have a right length in their lower 8 or 16 bits alone.
func lengths() []int {
	l := []int{65534, 65535, 65536, 65537, 65536 + 253, 65536 + 254, 100000}
	for n := range 800 {
		l = append(l, n)
	}
	return l
}

// isPrefix: is b, followed by some bytes, a right frame, or does it begin with one? One length of a PDU after the other is tried.
func isPrefix(b []byte) bool {
	for n := 1; n <= 253; n++ {
		header := []byte{0, 0, 0, 0, 0, byte(n + 1)}
		copy(header, b[:min(2, len(b))])
		k := min(len(header), len(b))
		if bytes.Equal(header[:k], b[:k]) {
			return true
		}
	}
	return false
}

// first: the right frame that b begins with, if there is one. One length of a PDU after the other is tried.
func first(b []byte) (api.Mbap, bool) {
	for n := 1; n <= 253 && n+7 <= len(b); n++ {
		x := api.Mbap{Tx: uint16(b[0])*256 + uint16(b[1]), Unit: b[6], PDU: b[7 : 7+n]}
		if bytes.Equal(packed(x), b[:7+n]) {
			return x, true
		}
	}
	return api.Mbap{}, false
}

// packMeets: Pack says of x what the chapter does.
func packMeets(t *testing.T, x api.Mbap) {
	t.Helper()
	b, e := mbap.Pack(x)
	if len(x.PDU) < 1 || len(x.PDU) > 253 {
		if e != api.ErrArg || len(b) > 0 {
			t.Fatalf("Pack(%d, %d, %d bytes) = %v, %d, want ErrArg alone", x.Tx, x.Unit, len(x.PDU), b, e)
		}
		return
	}
	if e != api.OK || !bytes.Equal(b, packed(x)) {
		t.Fatalf("Pack(%v) = %v, %d", x, b, e)
	}
}

// parseMeets: Parse says of b what the chapter does.
func parseMeets(t *testing.T, b []byte) {
	t.Helper()
	want, ok := first(b)
	x, e := mbap.Parse(b)
	if ok && len(want.PDU)+7 == len(b) {
		if e != api.OK || !same(x, want) {
			t.Fatalf("Parse(%v) = %v, %d, want %v", b, x, e, want)
		}
		return
	}
	if e != api.ErrFrame || !same(x, api.Mbap{}) {
		t.Fatalf("Parse(%v) = %v, %d, want ErrFrame alone", b, x, e)
	}
}

// cutIs: Cut says of b that it begins with these frames, and what of the rest.
func cutIs(t *testing.T, b []byte, want []api.Mbap, err api.Errno) {
	t.Helper()
	size := 0
	for _, x := range want {
		size += 7 + len(x.PDU)
	}
	l, n, e := mbap.Cut(b)
	if n != size || e != err || !slices.EqualFunc(l, want, same) {
		t.Fatalf("Cut(%v) = %v, %d, %d, want %v, %d, %d", b, l, n, e, want, size, err)
	}
}

// cutMeets: Cut says of b what the chapter does.
func cutMeets(t *testing.T, b []byte) {
	t.Helper()
	var want []api.Mbap
	rest := b
	for x, ok := first(rest); ok; x, ok = first(rest) {
		want = append(want, x)
		rest = rest[7+len(x.PDU):]
	}
	err := api.ErrFrame
	if isPrefix(rest) {
		err = api.OK
	}
	cutIs(t, b, want, err)
}

// readMeets: Parse and Cut say of b what the chapter does.
func readMeets(t *testing.T, b []byte) {
	t.Helper()
	parseMeets(t, b)
	cutMeets(t, b)
}

// example: that of the chapter.
var example = []byte{1, 2, 0, 0, 0, 6, 7, 3, 0, 1, 0, 2}

// P5.1: the chapter's example, both ways.
func TestExample(t *testing.T) {
	x := api.Mbap{Tx: 258, Unit: 7, PDU: []byte{3, 0, 1, 0, 2}}
	if b, e := mbap.Pack(x); e != api.OK || !bytes.Equal(b, example) {
		t.Error(b, e)
	}
	if got, e := mbap.Parse(example); e != api.OK || !same(got, x) {
		t.Error(got, e)
	}
}

// P5.2: the chapter's examples.
func TestCutExamples(t *testing.T) {
	x := []api.Mbap{{Tx: 258, Unit: 7, PDU: []byte{3, 0, 1, 0, 2}}}
	cutIs(t, append(bytes.Clone(example), 9), x, api.OK)
	cutIs(t, append(bytes.Clone(example), 9, 9, 1), x, api.ErrFrame)
	cutIs(t, []byte{0, 0, 0, 0, 0, 1}, nil, api.ErrFrame)
	cutIs(t, []byte{0, 0, 0, 0, 0, 1, 7}, nil, api.ErrFrame)
	if x, e := mbap.Parse([]byte{0, 0, 0, 0, 0, 1, 7}); e != api.ErrFrame || !same(x, api.Mbap{}) {
		t.Error(x, e)
	}
}

// P5.1: PDUs of all lengths around the range.
func TestPackByLengths(t *testing.T) {
	for _, n := range lengths() {
		packMeets(t, api.Mbap{Tx: 258, Unit: 7, PDU: sample(n)})
		packMeets(t, api.Mbap{PDU: make([]byte, n)})
	}
}

// P5.1, P5.3: all numbers and units, those that no slave has, too; what is packed is parsed again.
func TestNumbersAndUnits(t *testing.T) {
	for tx := range 65536 {
		x := api.Mbap{Tx: uint16(tx), Unit: uint8(tx ^ tx>>8), PDU: []byte{byte(tx), 3}}
		packMeets(t, x)
		if y, e := mbap.Parse(packed(x)); e != api.OK || !same(x, y) {
			t.Fatalf("Parse(%v) = %v, %d", packed(x), y, e)
		}
	}
	for unit := range 256 {
		for n := 1; n <= 253; n++ {
			x := api.Mbap{Tx: uint16(513 * n), Unit: uint8(unit), PDU: sample(n)}
			b, e := mbap.Pack(x)
			if e != api.OK || !bytes.Equal(b, packed(x)) {
				t.Fatalf("Pack(%v) = %v, %d", x, b, e)
			}
			if y, e := mbap.Parse(b); e != api.OK || !same(x, y) {
				t.Fatalf("Parse(%v) = %v, %d", b, y, e)
			}
			cutIs(t, b, []api.Mbap{x}, api.OK)
		}
	}
}

// P5.1, P5.2: frames with PDUs of all lengths, those that are too long or too short, too, whole, with a byte less or more.
func TestReadByLengths(t *testing.T) {
	for _, n := range lengths() {
		b := append(framed(258, 7, sample(n)...), 9)
		for _, end := range []int{len(b) - 2, len(b) - 1, len(b)} {
			readMeets(t, b[:end])
		}
	}
}

// P5.1, P5.2: a frame that is cut short anywhere is none, but a prefix of one.
func TestReadCutShort(t *testing.T) {
	for _, n := range []int{1, 2, 5, 127, 248, 249, 250, 253} {
		b := framed(65535, 255, sample(n)...)
		for end := range b {
			if x, e := mbap.Parse(b[:end]); e != api.ErrFrame || !same(x, api.Mbap{}) {
				t.Fatalf("Parse(%v) = %v, %d, want ErrFrame alone", b[:end], x, e)
			}
			cutIs(t, b[:end], nil, api.OK)
		}
	}
	parseMeets(t, nil)
	cutIs(t, nil, nil, api.OK)
}

// P5.1, P5.2: every byte at every place of the header, and of ends before a PDU.
func TestReadHeaders(t *testing.T) {
	for _, b := range [][]byte{framed(258, 7, 3, 0, 1, 0, 2), framed(0, 0, 0), framed(65535, 255, sample(253)...)} {
		for i := range 7 {
			for c := range 256 {
				x := bytes.Clone(b)
				x[i] = byte(c)
				readMeets(t, x)
				for end := i + 1; end <= 9; end++ {
					readMeets(t, x[:min(end, len(x))])
				}
				readMeets(t, slices.Concat(b, x))
				readMeets(t, slices.Concat(x, b, make([]byte, 300)))
			}
		}
	}
}

// P5.1, P5.2: all lengths that a header can tell, ahead of all lengths of what follows that may matter.
func TestReadToldLengths(t *testing.T) {
	b := append([]byte{1, 2, 0, 0, 0, 0}, sample(65536)...)
	for told := range 65536 {
		b[4], b[5] = byte(told>>8), byte(told)
		for _, n := range []int{0, 1, 2, told % 256, told} {
			if told >= 2 && told <= 254 {
				readMeets(t, b[:6+n])
				continue
			}
			x, e := mbap.Parse(b[:6+n])
			if e != api.ErrFrame || !same(x, api.Mbap{}) {
				t.Fatalf("Parse, for a length of %d: %v, %d, want ErrFrame alone", told, x, e)
			}
			cutIs(t, b[:6+n], nil, api.ErrFrame)
		}
	}
}

// P5.1, P5.2: all bytes of up to ten that are made of a few.
func TestReadShortBytes(t *testing.T) {
	letters := []byte{0, 2, 3, 255}
	var grow func(b []byte)
	grow = func(b []byte) {
		readMeets(t, b)
		for _, c := range letters {
			// Behind a wrong header nothing changes any more.
			if len(b) < 10 && isPrefix(b) {
				grow(append(bytes.Clone(b), c))
			}
		}
	}
	grow(nil)
	for _, c := range []byte{0, 1, 2, 4, 253, 254, 255} {
		grow([]byte{0, 0, 0, 0, 0, c})
	}
}

// stream: frames of many lengths, and their bytes one after the other.
func stream() ([]api.Mbap, []byte) {
	var l []api.Mbap
	var b []byte
	for i, n := range []int{1, 253, 5, 2, 252, 1, 1, 128, 6} {
		l = append(l, api.Mbap{Tx: uint16(i * 7919), Unit: uint8(31 * i), PDU: sample(n)})
		b = append(b, packed(l[i])...)
	}
	return l, b
}

// complete: how many frames of l are within n bytes.
func complete(l []api.Mbap, n int) int {
	for i, x := range l {
		if n -= 7 + len(x.PDU); n < 0 {
			return i
		}
	}
	return len(l)
}

// P5.2: a stream that ends anywhere begins with the frames that are complete, and goes on with a prefix of one.
func TestCutEndsAnywhere(t *testing.T) {
	l, b := stream()
	for end := range len(b) + 1 {
		cutIs(t, b[:end], l[:complete(l, end)], api.OK)
	}
}

// P5.2: what is no prefix of a frame is met behind any number of frames, and they are returned beside the error.
func TestCutBesideErrors(t *testing.T) {
	l, b := stream()
	at := 0
	for i := range len(l) + 1 {
		for _, tail := range [][]byte{{0, 0, 1}, {9, 9, 255}, {0, 0, 0, 1}, {0, 0, 0, 0, 1}, {0, 0, 0, 0, 255}, {0, 0, 0, 0, 0, 0}, {0, 0, 0, 0, 0, 1}, {0, 0, 0, 0, 0, 255}, {0, 0, 0, 0, 1, 2}, {0, 0, 0, 0, 0, 1, 7, 7}, make([]byte, 1000)} {
			cutIs(t, slices.Concat(b[:at], tail), l[:i], api.ErrFrame)
			cutIs(t, slices.Concat(b[:at], tail, b), l[:i], api.ErrFrame)
		}
		for _, tail := range [][]byte{nil, {0}, {255}, {9, 9}, {255, 255, 0}, {255, 255, 0, 0}, {1, 1, 0, 0, 0}, {0, 0, 0, 0, 0, 2}, {0, 0, 0, 0, 0, 254}, {0, 0, 0, 0, 0, 2, 255}, append([]byte{0, 0, 0, 0, 0, 254}, make([]byte, 253)...)} {
			cutIs(t, slices.Concat(b[:at], tail), l[:i], api.OK)
		}
		if i < len(l) {
			at += 7 + len(l[i].PDU)
		}
	}
}

// P5.2: many frames are taken at once.
func TestCutMany(t *testing.T) {
	var want []api.Mbap
	var b []byte
	for i := range 70000 {
		want = append(want, api.Mbap{Tx: uint16(i), Unit: uint8(i % 251), PDU: sample(1 + i%3)})
		b = append(b, packed(want[i])...)
	}
	l, n, e := mbap.Cut(append(b, 1, 2, 0))
	if n != len(b) || e != api.OK || !slices.EqualFunc(l, want, same) {
		t.Errorf("%d frames, %d bytes, %d, want %d, %d", len(l), n, e, len(want), len(b))
	}
}

// pour: the frames of b, if it comes in parts of these sizes, over and over, and each part is appended to what was left.
func pour(t *testing.T, b []byte, sizes ...int) []api.Mbap {
	t.Helper()
	var got []api.Mbap
	var left []byte
	for i := 0; len(b) > 0; i++ {
		k := min(sizes[i%len(sizes)], len(b))
		left = append(left, b[:k]...)
		b = b[k:]
		l, n, e := mbap.Cut(left)
		if e != api.OK || n < 0 || n > len(left) {
			t.Fatalf("Cut(%v): %d, %d", left, n, e)
		}
		got = append(got, l...)
		left = left[n:]
	}
	if len(left) > 0 {
		t.Fatalf("%v is left", left)
	}
	return got
}

// P5.3: a stream that comes in any parts gives the same frames.
func TestStreamInParts(t *testing.T) {
	l, b := stream()
	for k := 1; k <= len(b); k++ {
		for _, sizes := range [][]int{{k}, {k, 1}, {1, k, 2, 7}, {k, len(b)}} {
			if got := pour(t, b, sizes...); !slices.EqualFunc(got, l, same) {
				t.Fatalf("in parts of %v: %v, want %v", sizes, got, l)
			}
		}
	}
	short := slices.Concat(framed(1, 2, 3), framed(4, 5, 6, 7), framed(8, 9, 10))
	for one := range len(short) {
		for two := one; two <= len(short); two++ {
			if got := pour(t, short, max(one, 1), max(two-one, 1), len(short)); len(got) != 3 || got[0].Tx != 1 || got[1].Tx != 4 || got[2].Tx != 8 {
				t.Fatalf("cut at %d and %d: %v", one, two, got)
			}
		}
	}
}

// P5.3: a different byte in place of one of the two zeros, or a length out of its range, ends a stream where its frame begins.
func TestStreamEnds(t *testing.T) {
	l, b := stream()
	at := 0
	for i, x := range l {
		for c := range 256 {
			for place := 2; place <= 5; place++ {
				wrong := bytes.Clone(b)
				wrong[at+place] = byte(c)
				if place < 5 && c == 0 || place == 5 && c >= 2 && c <= 254 {
					continue
				}
				cutIs(t, wrong, l[:i], api.ErrFrame)
				cutIs(t, wrong[:at+place], l[:i], api.OK)
				cutIs(t, wrong[:at+place+1], l[:i], api.ErrFrame)
			}
		}
		at += 7 + len(x.PDU)
	}
}

// R3: no argument changes, its spare capacity neither.
func TestArgumentsStay(t *testing.T) {
	for _, b := range [][]byte{framed(1, 2, 3), example, framed(1, 2, sample(253)...), slices.Concat(example, example, []byte{9, 9, 1})} {
		whole := append(bytes.Clone(b), 0, 0, 0, 0, 0, 2, 7, 8, 9)
		before := bytes.Clone(whole)
		for n := range len(whole) + 1 {
			mbap.Parse(whole[:n])
			mbap.Cut(whole[:n])
			mbap.Pack(api.Mbap{Tx: 258, Unit: 7, PDU: whole[:n]})
			mbap.Pack(api.Mbap{Tx: 258, Unit: 7, PDU: whole[min(7, n):n]})
			if !bytes.Equal(whole, before) {
				t.Fatalf("with %d bytes %v became %v", n, before, whole)
			}
		}
	}
}

// fill: writes c to all bytes of b, spare ones too.
func fill(b []byte, c byte) {
	b = b[:cap(b)]
	for i := range b {
		b[i] = c
	}
}

// R3: results are new memory, spare capacity and all: they share none with an argument, nor with one another.
func TestResultsAreNew(t *testing.T) {
	l, b := stream()
	before := bytes.Clone(b)
	for i, x := range l {
		one, _ := mbap.Pack(x)
		two, _ := mbap.Pack(x)
		fill(two, 170)
		y, _ := mbap.Parse(one)
		z, _ := mbap.Parse(one)
		fill(z.PDU, 170)
		if !bytes.Equal(one, packed(x)) || !same(x, y) || !bytes.Equal(x.PDU, sample(len(x.PDU))) {
			t.Fatalf("what is answered of frame %d is shared", i)
		}
	}
	for i := range l {
		got, _, _ := mbap.Cut(b)
		again, _, _ := mbap.Cut(b)
		for _, x := range again {
			fill(x.PDU, 85)
		}
		fill(got[i].PDU, 170)
		for k, x := range got {
			if k != i && !same(x, l[k]) {
				t.Fatalf("frame %d changes with frame %d", k, i)
			}
		}
		if !bytes.Equal(b, before) {
			t.Fatal("what is answered is the argument's")
		}
	}
}

// R3: a result doesn't change with the argument, which is not kept.
func TestArgumentsAreNotKept(t *testing.T) {
	l, b := stream()
	got, _, _ := mbap.Cut(b)
	one := packed(l[1])
	x, _ := mbap.Parse(one)
	pdu := sample(253)
	p, _ := mbap.Pack(api.Mbap{Tx: 1, Unit: 2, PDU: pdu})
	fill(b, 170)
	fill(one, 170)
	fill(pdu, 170)
	if !slices.EqualFunc(got, l, same) || !same(x, l[1]) || !bytes.Equal(p, framed(1, 2, sample(253)...)) {
		t.Error("a result changes with its argument")
	}
}

// R4: a call hangs on its arguments alone, whatever was called before, and by whom.
func TestCallsAreAlike(t *testing.T) {
	l, b := stream()
	done := make(chan bool)
	for i := range 8 {
		go func() {
			ok := true
			for n := 1; n <= 253; n++ {
				x := api.Mbap{Tx: uint16(i), Unit: uint8(n), PDU: sample(n)}
				p, e := mbap.Pack(x)
				y, f := mbap.Parse(p)
				_, g := mbap.Parse(p[:len(p)-1])
				got, _, h := mbap.Cut(b)
				ok = ok && e == api.OK && f == api.OK && g == api.ErrFrame && h == api.OK && same(x, y) && slices.EqualFunc(got, l, same)
			}
			done <- ok
		}()
	}
	for range 8 {
		if !<-done {
			t.Error("calls beside one another answer otherwise")
		}
	}
}
