package words_test

import (
	"bytes"
	"math"
	"slices"
	"testing"

	"saucier/words"
)

// packed: bits as bytes, by the words of the chapter: each bit counts twice as much as the one before it, and every eighth one begins a byte.
func packed(l []bool) []byte {
	var b []byte
	weight := 0
	for i, bit := range l {
		if i%8 == 0 {
			b = append(b, 0)
			weight = 1
		}
		if bit {
			b[len(b)-1] += byte(weight)
		}
		weight *= 2
	}
	return b
}

// unpacked: the n bits that b is, and whether it is n bits at all, by the words of the chapter.
func unpacked(b []byte, n int) ([]bool, bool) {
	var all []bool
	for _, c := range b {
		x := int(c)
		for range 8 {
			all = append(all, x%2 == 1)
			x /= 2
		}
	}
	if n < 0 || n > len(all) || len(all)-n >= 8 || slices.Contains(all[n:], true) {
		return nil, false
	}
	return all[:n], true
}

// sample: n bytes of a short rule, so that no two samples look alike.
func sample(n int) []byte {
	b := make([]byte, n)
	x := uint32(n) + 1
	for i := range b {
		x = x*1664525 + 1013904223
		b[i] = byte(x >> 24)
	}
	return b
}

// bits: n bits of a short rule.
func bits(n int) []bool {
	l := make([]bool, n)
	for i, c := range sample(n) {
		l[i] = c >= 128
	}
	return l
}

// regs: n registers of a short rule.
func regs(n int) []uint16 {
	l := make([]uint16, n)
	b := sample(2 * n)
	for i := range l {
		l[i] = uint16(b[2*i])*256 + uint16(b[2*i+1])
	}
	return l
}

// counts: of bits, and of bytes: all small ones, and those around greater powers of two.
func counts() []int {
	l := []int{2000, 2001, 32767, 32768, 65535, 65536, 65537, 70001}
	for n := range 600 {
		l = append(l, n)
	}
	return l
}

// bitsMeet: Bits says of n and b what the chapter does.
func bitsMeet(t *testing.T, b []byte, n int) {
	t.Helper()
	want, ok := unpacked(b, n)
	got := words.Bits(b, n)
	if !slices.Equal(got, want) {
		t.Fatalf("Bits(%v, %d) = %v, want %v", b, n, got, want)
	}
	if ok && !bytes.Equal(words.PackBits(got), b) {
		t.Fatalf("Bits(%v, %d), packed again: %v", b, n, words.PackBits(got))
	}
}

// packBitsMeets: PackBits says of l what the chapter does, and Bits takes it back.
func packBitsMeets(t *testing.T, l []bool) {
	t.Helper()
	b := words.PackBits(l)
	if !bytes.Equal(b, packed(l)) {
		t.Fatalf("PackBits(%v) = %v, want %v", l, b, packed(l))
	}
	if got := words.Bits(b, len(l)); !slices.Equal(got, l) {
		t.Fatalf("Bits(%v, %d) = %v, want %v", b, len(l), got, l)
	}
}

// P6.1 to P6.3: the chapter's examples.
func TestExamples(t *testing.T) {
	l := []bool{true, false, true, true, false, false, false, false, true}
	if b := words.PackBits(l); !bytes.Equal(b, []byte{13, 1}) {
		t.Error(b)
	}
	if got := words.Bits([]byte{13, 1}, 9); !slices.Equal(got, l) {
		t.Error(got)
	}
	if got := words.Bits([]byte{13, 3}, 9); len(got) != 0 {
		t.Error(got)
	}
	if b := words.PackRegs([]uint16{1, 258}); !bytes.Equal(b, []byte{0, 1, 1, 2}) {
		t.Error(b)
	}
	if r, ok := words.Regs([]byte{0, 1, 1, 2}); !ok || !slices.Equal(r, []uint16{1, 258}) {
		t.Error(r, ok)
	}
	if x := words.Wide(1, 2); x != 65538 {
		t.Error(x)
	}
	if x := words.Signed(65535); x != -1 {
		t.Error(x)
	}
	if x, ok := words.Word(-2); !ok || x != 65534 {
		t.Error(x, ok)
	}
	if x, ok := words.Word(40000); ok || x != 0 {
		t.Error(x, ok)
	}
}

// P6.1: all lists of up to 17 bits.
func TestPackBitsOfShortLists(t *testing.T) {
	for n := range 18 {
		l := make([]bool, n)
		for x := range 1 << n {
			for i := range l {
				l[i] = x/(1<<i)%2 == 1
			}
			packBitsMeets(t, l)
		}
	}
}

// P6.1: lists of many lengths, of one bit that is set, of one that is not, and of both kinds.
func TestPackBitsByLengths(t *testing.T) {
	for _, n := range counts() {
		packBitsMeets(t, bits(n))
		packBitsMeets(t, make([]bool, n))
		packBitsMeets(t, slices.Repeat([]bool{true}, n))
		if b := words.PackBits(make([]bool, n)); len(b) != int(math.Ceil(float64(n)/8)) {
			t.Fatalf("%d bits are %d bytes", n, len(b))
		}
	}
	for i := range 70 {
		l := make([]bool, 70)
		l[i] = true
		packBitsMeets(t, l)
	}
}

// P6.1: all bytes of up to two, and all numbers of bits around them.
func TestBitsOfShortBytes(t *testing.T) {
	for n := -20; n <= 40; n++ {
		bitsMeet(t, nil, n)
		for c := range 256 {
			bitsMeet(t, []byte{byte(c)}, n)
		}
	}
	for x := range 65536 {
		for n := -1; n <= 18; n++ {
			bitsMeet(t, []byte{byte(x), byte(x >> 8)}, n)
		}
	}
}

// P6.1: bytes of many lengths, with any number of bits around those that fit.
func TestBitsByLengths(t *testing.T) {
	for _, n := range counts() {
		for _, b := range [][]byte{sample(n), make([]byte, n), bytes.Repeat([]byte{255}, n)} {
			for _, k := range []int{8 * n, 8*n - 1, 8*n - 7, 8*n - 8, 8*n - 9, 8*n + 1, 8*n + 7, 8*n + 8, n, 0, -1, -8 * n} {
				bitsMeet(t, b, k)
			}
		}
	}
}

// P6.1: a single unused bit that is set is met, and behind the last byte that is needed none may follow, 0 or not.
func TestBitsWithUnusedBits(t *testing.T) {
	for n := range 100 {
		l := bits(n)
		b := packed(l)
		for i := n; i < 8*len(b); i++ {
			wrong := bytes.Clone(b)
			wrong[i/8] |= 1 << (i % 8)
			if got := words.Bits(wrong, n); len(got) > 0 {
				t.Fatalf("Bits(%v, %d) = %v, want none", wrong, n, got)
			}
		}
		for _, c := range []byte{0, 1, 128} {
			if got := words.Bits(append(bytes.Clone(b), c), n); len(got) > 0 {
				t.Fatalf("%d bits and a byte %d: %v, want none", n, c, got)
			}
		}
		if n%8 == 1 {
			if got := words.Bits(b[:len(b)-1], n); len(got) > 0 {
				t.Fatalf("%d bits without their last byte: %v, want none", n, got)
			}
		}
	}
}

// extremes: numbers at the ends of their kinds, and those that are small ones in their lower bits alone.
func extremes() []int {
	var l []int
	for _, x := range []int{math.MinInt, math.MinInt32, 0, math.MaxInt32, math.MaxInt, 1 << 16, 1 << 31, 1 << 32, 1 << 33, 1 << 40, 1 << 60, 1 << 61, 1 << 62} {
		for d := -40; d <= 40; d++ {
			l = append(l, x+d, -x+d)
		}
	}
	return l
}

// P6.1, R1: numbers of bits that no bytes have.
func TestBitsOfExtremes(t *testing.T) {
	for _, n := range extremes() {
		for k := range 6 {
			bitsMeet(t, make([]byte, k), n)
		}
	}
}

// P6.2: all registers, at all places.
func TestAllRegisters(t *testing.T) {
	for x := range 65536 {
		for i := range 4 {
			l := []uint16{513, 65535, 32768, 7}
			b := []byte{2, 1, 255, 255, 128, 0, 0, 7}
			l[i] = uint16(x)
			b[2*i], b[2*i+1] = byte(x/256), byte(x%256)
			if got := words.PackRegs(l); !bytes.Equal(got, b) {
				t.Fatalf("PackRegs(%v) = %v, want %v", l, got, b)
			}
			if got, ok := words.Regs(b); !ok || !slices.Equal(got, l) {
				t.Fatalf("Regs(%v) = %v, %t, want %v", b, got, ok, l)
			}
		}
	}
}

// P6.2, P6.4: registers of many counts, none and very many too, and as many bytes, whether they are even or odd.
func TestRegistersByCounts(t *testing.T) {
	for _, n := range counts() {
		l := regs(n)
		b := words.PackRegs(l)
		if !bytes.Equal(b, sample(2*n)) {
			t.Fatalf("PackRegs of %d: %d bytes, or others", n, len(b))
		}
		if got, ok := words.Regs(b); !ok || !slices.Equal(got, l) {
			t.Fatalf("Regs of %d bytes: %v, %t", len(b), got, ok)
		}
		for _, odd := range [][]byte{append(bytes.Clone(b), 0), append([]byte{0}, b...), sample(2*n + 1), make([]byte, 2*n+1)} {
			if got, ok := words.Regs(odd); ok || len(got) > 0 {
				t.Fatalf("Regs of %d bytes: %v, %t, want none", len(odd), got, ok)
			}
		}
		if got, ok := words.Regs(sample(n)); ok != (n%2 == 0) || ok && !bytes.Equal(words.PackRegs(got), sample(n)) {
			t.Fatalf("Regs of %d bytes: %v, %t", n, got, ok)
		}
	}
	if l, ok := words.Regs(nil); !ok || len(l) > 0 {
		t.Error(l, ok)
	}
}

// P6.3, P6.4: each half with all of its values, and the other one with chosen ones.
func TestHalves(t *testing.T) {
	for x := range 65536 {
		for _, y := range []int{0, 1, 255, 256, 32767, 32768, 65534, 65535, x, 65535 - x} {
			halvesMeet(t, x, y)
			halvesMeet(t, y, x)
		}
	}
}

// halvesMeet: Wide and Parts say of these halves what the chapter does.
func halvesMeet(t *testing.T, high, low int) {
	t.Helper()
	want := uint32(high*65536 + low)
	if got := words.Wide(uint16(high), uint16(low)); got != want {
		t.Fatalf("Wide(%d, %d) = %d, want %d", high, low, got, want)
	}
	if h, l := words.Parts(want); int(h) != high || int(l) != low {
		t.Fatalf("Parts(%d) = %d, %d, want %d, %d", want, h, l, high, low)
	}
}

// P6.3: two registers are the upper half first, as bytes too.
func TestHalvesAsBytes(t *testing.T) {
	h, l := words.Parts(16909060)
	if b := words.PackRegs([]uint16{h, l}); !bytes.Equal(b, []byte{1, 2, 3, 4}) {
		t.Error(b)
	}
}

// P6.3, P6.4: all signed registers have their values, and the values their registers.
func TestSignedRegisters(t *testing.T) {
	for x := range 65536 {
		want := x
		if x >= 32768 {
			want = x - 65536
		}
		if got := words.Signed(uint16(x)); got != want {
			t.Fatalf("Signed(%d) = %d, want %d", x, got, want)
		}
		if got, ok := words.Word(want); !ok || int(got) != x {
			t.Fatalf("Word(%d) = %d, %t, want %d", want, got, ok, x)
		}
	}
}

// P6.3, R2: no other number is the value of a register.
func TestWordsOutOfRange(t *testing.T) {
	wordMeets := func(x int) {
		got, ok := words.Word(x)
		if want := x >= -32768 && x <= 32767; ok != want || !ok && got != 0 || ok && words.Signed(got) != x {
			t.Fatalf("Word(%d) = %d, %t", x, got, ok)
		}
	}
	for x := -200000; x <= 200000; x++ {
		wordMeets(x)
	}
	for _, x := range extremes() {
		wordMeets(x)
		wordMeets(x + 32768)
		wordMeets(x - 32768)
	}
}

// R3: no argument changes, its spare capacity neither.
func TestArgumentsStay(t *testing.T) {
	b, l, r := sample(40), bits(40), regs(40)
	for n := range 41 {
		words.Regs(b[:n])
		words.PackBits(l[:n])
		words.PackRegs(r[:n])
		for k := -1; k <= 8*n+1; k++ {
			words.Bits(b[:n], k)
		}
		if !bytes.Equal(b, sample(40)) || !slices.Equal(l, bits(40)) || !slices.Equal(r, regs(40)) {
			t.Fatalf("with %d of them arguments change", n)
		}
	}
}

// fill: writes x to all elements of l, spare ones too.
func fill[E any](l []E, x E) {
	l = l[:cap(l)]
	for i := range l {
		l[i] = x
	}
}

// R3: results are new memory, spare capacity and all: they share none with an argument, nor with one another.
func TestResultsAreNew(t *testing.T) {
	for n := range 40 {
		b, l, r := sample(n), bits(n), regs(n)
		even := sample(2 * n)
		fill(words.Bits(b, 8*n), true)
		fill(words.PackBits(l), 170)
		fill(words.PackRegs(r), 170)
		got, _ := words.Regs(even)
		fill(got, 43690)
		if !bytes.Equal(b, sample(n)) || !slices.Equal(l, bits(n)) || !slices.Equal(r, regs(n)) || !bytes.Equal(even, sample(2*n)) {
			t.Fatalf("results of %d share memory with arguments", n)
		}
		again, ok := words.Regs(even)
		if !ok || !slices.Equal(again, r) || !bytes.Equal(words.PackRegs(r), even) || !bytes.Equal(words.PackBits(l), packed(l)) {
			t.Fatalf("results of %d share memory with one another", n)
		}
		bitsMeet(t, b, 8*n)
	}
}

// R3: a result doesn't change with the argument, which is not kept.
func TestArgumentsAreNotKept(t *testing.T) {
	b, l, r, even := sample(40), bits(40), regs(40), sample(80)
	want, _ := unpacked(b, 320)
	gotBits, gotPacked, gotBytes := words.Bits(b, 320), words.PackBits(l), words.PackRegs(r)
	gotRegs, _ := words.Regs(even)
	fill(b, 170)
	fill(l, true)
	fill(r, 43690)
	fill(even, 85)
	if !slices.Equal(gotBits, want) || !bytes.Equal(gotPacked, packed(bits(40))) || !bytes.Equal(gotBytes, sample(80)) || !slices.Equal(gotRegs, regs(40)) {
		t.Error("a result changes with its argument")
	}
}

// R4: a call hangs on its arguments alone, whatever was called before, and by whom.
func TestCallsAreAlike(t *testing.T) {
	done := make(chan bool)
	for range 8 {
		go func() {
			ok := true
			for n := range 300 {
				l, r := bits(n), regs(n)
				got, even := words.Regs(words.PackRegs(r))
				_, odd := words.Regs(sample(2*n + 1))
				ok = ok && slices.Equal(words.Bits(words.PackBits(l), n), l) && slices.Equal(got, r) && even && !odd
			}
			done <- ok
		}()
	}
	for range 8 {
		if !<-done {
			t.Error("calls beside one another answer otherwise")
		}
	}
}
