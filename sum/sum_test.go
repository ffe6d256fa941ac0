package sum_test

import (
	"bytes"
	"hash/crc32"
	"math"
	"math/rand/v2"
	"slices"
	"testing"
	"time"

	"saucier/sum"
)

// register is one of 32 bits, the lowest first, as the chapter speaks of it.
type register [32]bool

// registerOf: the register that is x.
func registerOf(x uint32) register {
	var r register
	for i := range r {
		r[i] = x%2 == 1
		x /= 2
	}
	return r
}

// number: r as a number.
func (r register) number() uint32 {
	x := uint32(0)
	for i := range r {
		x *= 2
		if r[31-i] {
			x++
		}
	}
	return x
}

// combined: r and s, combined by exclusive or.
func (r register) combined(s register) register {
	for i := range r {
		r[i] = r[i] != s[i]
	}
	return r
}

// takesIn: r after it took in b, by the words of the chapter.
func (r register) takesIn(b byte) register {
	r = r.combined(registerOf(uint32(b)))
	for range 8 {
		odd := r[0]
		copy(r[:], r[1:])
		r[31] = false
		if odd {
			r = r.combined(registerOf(3988292384))
		}
	}
	return r
}

// sumOf: the check sum of b, by the words of the chapter.
func sumOf(b []byte) uint32 {
	r := registerOf(4294967295)
	for _, c := range b {
		r = r.takesIn(c)
	}
	for i := range r {
		r[i] = !r[i]
	}
	return r.number()
}

// afterZeros: what each bit of a register alone becomes by n zero bytes. It takes them in by halves, and leaves nothing out.
func afterZeros(n uint64) [32]uint32 {
	var l [32]uint32
	if n == 0 {
		for i := range l {
			l[i] = 1 << i
		}
		return l
	}
	half := afterZeros(n / 2)
	for i := range l {
		l[i] = together(half, half[i])
		if n%2 == 1 {
			l[i] = registerOf(l[i]).takesIn(0).number()
		}
	}
	return l
}

// together: what x becomes if its bits become what l says.
func together(l [32]uint32, x uint32) uint32 {
	var all register
	for i, set := range registerOf(x) {
		if set {
			all = all.combined(registerOf(l[i]))
		}
	}
	return all.number()
}

// dice: chance that falls alike in each run.
func dice(seed uint64) *rand.Rand { return rand.New(rand.NewPCG(seed, 8)) }

// sample: n bytes by chance.
func sample(r *rand.Rand, n int) []byte {
	b := make([]byte, n)
	for i := range b {
		b[i] = byte(r.Uint32())
	}
	return b
}

// registers: 0, 32 ones, each bit alone, each bit left out, and some by chance.
func registers() []uint32 {
	l := []uint32{0, math.MaxUint32, 3988292384, 0x12345678}
	for i := range 32 {
		l = append(l, 1<<i, ^uint32(1<<i))
	}
	r := dice(1)
	for range 40 {
		l = append(l, r.Uint32())
	}
	return l
}

// lengths: of ordinary byte strings, and around powers of two.
func lengths() []int {
	l := []int{1000, 8191, 8192, 8193, 65535, 65536, 70001}
	for n := range 300 {
		l = append(l, n)
	}
	return l
}

// P8.1: the chapter's examples.
func TestExamples(t *testing.T) {
	if x := sum.Bytes([]byte("123456789")); x != 3421780262 {
		t.Error(x)
	}
	if x, y := sum.Bytes(nil), sum.Bytes([]byte{}); x != 0 || y != 0 {
		t.Error(x, y)
	}
	if x := sum.Words([]uint16{12594, 13108}); x != 2615402659 {
		t.Error(x)
	}
	if x := sum.Bytes([]byte("1234")); x != 2615402659 {
		t.Error(x)
	}
	if x, y := sum.Words(nil), sum.Words([]uint16{}); x != 0 || y != 0 {
		t.Error(x, y)
	}
}

// P8.1: every byte is taken in as the chapter says, by registers of all kinds.
func TestAddIsAsTheChapterSays(t *testing.T) {
	for _, x := range registers() {
		for c := range 256 {
			want := registerOf(x).takesIn(byte(c)).number()
			if got := sum.Add(x, byte(c)); got != want {
				t.Fatalf("Add(%d, %d) = %d, want %d", x, c, got, want)
			}
		}
	}
}

// P8.1: a check sum begins with 32 ones, takes in byte by byte, and is inverted in the end.
func TestBytesIsAsTheChapterSays(t *testing.T) {
	r := dice(2)
	for _, n := range lengths() {
		for _, b := range [][]byte{sample(r, n), make([]byte, n), bytes.Repeat([]byte{255}, n)} {
			got := sum.Bytes(b)
			if want := sumOf(b); got != want {
				t.Fatalf("Bytes of %d bytes = %d, want %d", n, got, want)
			}
			if want := crc32.ChecksumIEEE(b); got != want {
				t.Fatalf("Bytes of %d bytes = %d, want %d, as everybody has it", n, got, want)
			}
			x := uint32(math.MaxUint32)
			for _, c := range b {
				x = sum.Add(x, c)
			}
			if got != ^x {
				t.Fatalf("Bytes of %d bytes = %d, by Add %d", n, got, ^x)
			}
		}
	}
}

// P8.1: of registers it is that of their bytes, the upper half of each first.
func TestWordsIsAsTheChapterSays(t *testing.T) {
	r := dice(3)
	for _, n := range lengths() {
		l := make([]uint16, n)
		var b []byte
		for i := range l {
			l[i] = uint16(r.Uint32())
			b = append(b, byte(l[i]/256), byte(l[i]%256))
		}
		if got, want := sum.Words(l), sumOf(b); got != want {
			t.Fatalf("Words of %d registers = %d, want %d", n, got, want)
		}
	}
	for x := range 65536 {
		if got, want := sum.Words([]uint16{uint16(x)}), sumOf([]byte{byte(x / 256), byte(x % 256)}); got != want {
			t.Fatalf("Words of %d = %d, want %d", x, got, want)
		}
	}
}

// P8.2: few zero bytes, one by one.
func TestZerosOneByOne(t *testing.T) {
	for _, x := range registers() {
		r := registerOf(x)
		for n := range 300 {
			if got, want := sum.Zeros(x, n), r.number(); got != want {
				t.Fatalf("Zeros(%d, %d) = %d, want %d", x, n, got, want)
			}
			r = r.takesIn(0)
		}
	}
	x := uint32(0x12345678)
	for n := range 200000 {
		if n%1021 == 0 && sum.Zeros(0x12345678, n) != x {
			t.Fatalf("Zeros of %d is wrong", n)
		}
		x = sum.Add(x, 0)
	}
}

// many: counts of zero bytes, up to the greatest there is: around powers of two, around each number of bytes after which registers begin anew, and by chance.
func many() []int {
	l := []int{math.MaxInt, math.MaxInt - 1, math.MaxInt / 3 * 2, math.MaxInt32 - 1}
	for i := range 63 {
		l = append(l, 1<<i-1, 1<<i, 1<<i+1)
	}
	for _, times := range []int{1, 2, 3, 7, 1 << 16, 1 << 30} {
		l = append(l, times*math.MaxUint32-1, times*math.MaxUint32, times*math.MaxUint32+1)
	}
	r := dice(4)
	for range 200 {
		l = append(l, int(r.Uint64()>>(1+r.IntN(63))))
	}
	return l
}

// P8.2: any number of zero bytes.
func TestZerosOfMany(t *testing.T) {
	for _, n := range many() {
		l := afterZeros(uint64(n))
		for _, x := range registers() {
			if got, want := sum.Zeros(x, n), together(l, x); got != want {
				t.Fatalf("Zeros(%d, %d) = %d, want %d", x, n, got, want)
			}
		}
	}
}

// P8.2: with a negative number the register is what it was.
func TestZerosOfNegativeNumbers(t *testing.T) {
	for _, x := range registers() {
		for _, n := range []int{-1, -2, -8, -255, -1 << 32, 1 - 1<<32, math.MinInt32, math.MinInt + 1, math.MinInt} {
			if got := sum.Zeros(x, n); got != x {
				t.Fatalf("Zeros(%d, %d) = %d", x, n, got)
			}
		}
	}
}

// P8.2: the greatest numbers take no longer than a few thousand steps: a hundred thousand calls end in time.
func TestZerosTakesFewSteps(t *testing.T) {
	done := make(chan uint32)
	go func() {
		x := uint32(1)
		for i := range 100000 {
			x = sum.Zeros(x, math.MaxInt-i)
		}
		done <- x
	}()
	select {
	case <-done:
	case <-time.After(20 * time.Second):
		t.Fatal("Zeros takes too long")
	}
}

// turn: inverts the bits of pattern in b, from bit at on (those of a byte from its lowest one up), as far as b reaches.
func turn(b []byte, at int, pattern uint32) {
	for i := range 32 {
		if pattern>>i&1 == 1 && at+i < 8*len(b) {
			b[(at+i)/8] ^= 1 << ((at + i) % 8)
		}
	}
}

// P8.3: bits that are inverted within 32 neighbouring ones change the check sum.
func TestNeighbouringBitsAreMet(t *testing.T) {
	r := dice(5)
	for _, n := range []int{1, 2, 3, 4, 5, 8, 22, 60} {
		b := sample(r, n)
		before := sum.Bytes(b)
		for at := range 8 * n {
			patterns := []uint32{1, 0x80000001, 0xEDB88321, 0xDB710641, 0x04C11DB7, math.MaxUint32}
			for range 200 {
				patterns = append(patterns, r.Uint32()|1)
			}
			for _, p := range patterns {
				turn(b, at, p)
				if sum.Bytes(b) == before {
					t.Fatalf("%d bytes, %b from bit %d on: not met", n, p, at)
				}
				turn(b, at, p)
			}
		}
	}
}

// P8.3: no two short byte strings of the same length have the same check sum.
func TestShortStringsDiffer(t *testing.T) {
	seen := map[uint32]bool{}
	for x := range 65536 {
		seen[sum.Words([]uint16{uint16(x)})] = true
	}
	if len(seen) != 65536 {
		t.Errorf("two bytes have %d check sums", len(seen))
	}
}

// P8.3: of three byte strings, combined, the check sum is that of the three, combined.
func TestSumsCombine(t *testing.T) {
	r := dice(6)
	for n := range 200 {
		a, b, c := sample(r, n), sample(r, n), sample(r, n)
		all := make([]byte, n)
		for i := range all {
			all[i] = a[i] ^ b[i] ^ c[i]
		}
		if got, want := sum.Bytes(all), sum.Bytes(a)^sum.Bytes(b)^sum.Bytes(c); got != want {
			t.Fatalf("%d bytes: %d, want %d", n, got, want)
		}
	}
}

// P8.3: the check sum of two byte strings one behind the other is told by theirs, and by the length of the second.
func TestSumsJoin(t *testing.T) {
	r := dice(7)
	for range 300 {
		a, b := sample(r, r.IntN(300)), sample(r, r.IntN(300))
		want := sum.Bytes(slices.Concat(a, b))
		if got := sum.Zeros(sum.Bytes(a), len(b)) ^ sum.Bytes(b); got != want {
			t.Fatalf("%d and %d bytes: %d, want %d", len(a), len(b), got, want)
		}
	}
}

// R3: no argument changes, its spare capacity neither.
func TestArgumentsStay(t *testing.T) {
	r := dice(8)
	b, l := sample(r, 20), []uint16{1, 2, 3, 65535, 256, 7}
	bytesBefore, wordsBefore := bytes.Clone(b), slices.Clone(l)
	for n := range len(b) + 1 {
		sum.Bytes(b[:n])
	}
	for n := range len(l) + 1 {
		sum.Words(l[:n])
	}
	if !bytes.Equal(b, bytesBefore) || !slices.Equal(l, wordsBefore) {
		t.Error(b, l)
	}
}

// R4: a call hangs on its arguments alone, whatever was called before, and by whom.
func TestCallsAreAlike(t *testing.T) {
	b := sample(dice(9), 1000)
	l := []uint16{1, 2, 3}
	type told struct{ add, bytes, words, zeros uint32 }
	ask := func() told {
		return told{sum.Add(5, 6), sum.Bytes(b), sum.Words(l), sum.Zeros(9, 1<<40)}
	}
	want := ask()
	done := make(chan told)
	for range 8 {
		go func() { done <- ask() }()
	}
	for range 8 {
		if got := <-done; got != want {
			t.Errorf("%v, want %v", got, want)
		}
	}
}
