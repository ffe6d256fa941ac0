package crc

import (
	"bytes"
	"testing"

	"saucier/api"
)

// slow: the check sum after one more byte, in the words of the chapter, bit by bit.
func slow(sum uint16, c byte) uint16 {
	sum ^= uint16(c)
	for range 8 {
		out := sum & 1
		sum >>= 1
		if out == 1 {
			sum ^= 40961
		}
	}
	return sum
}

// slowSum: the check sum of b, bit by bit.
func slowSum(b []byte) uint16 {
	sum := uint16(65535)
	for _, c := range b {
		sum = slow(sum, c)
	}
	return sum
}

// sample: n bytes of a short rule, so that no two samples look alike.
func sample(n int) []byte {
	b := make([]byte, n)
	x := uint32(n) + 1
	for i := range b {
		x = x*1664525 + 1013904223
		b[i] = byte(x >> 24)
	}
	return b
}

// samples: bytes of many lengths, the ordinary ones of a frame among them.
func samples() [][]byte {
	l := [][]byte{nil, {}, {0}, {255}, {0, 0}, {255, 255}, {2, 7}, []byte("123456789")}
	for n := range 80 {
		l = append(l, sample(n))
	}
	for _, n := range []int{254, 255, 256, 257, 1000, 65536, 70001} {
		l = append(l, sample(n))
	}
	return l
}

// P1.1: every check sum, and every byte, as the bits one by one say.
func TestNextIsAsBitByBit(t *testing.T) {
	for sum := range 65536 {
		for c := range 256 {
			want := slow(uint16(sum), byte(c))
			if got := Next(uint16(sum), byte(c)); got != want {
				t.Fatalf("Next(%d, %d) = %d, want %d", sum, c, got, want)
			}
		}
	}
}

// P1.1: known check sums.
func TestSumOfKnownBytes(t *testing.T) {
	for _, x := range []struct {
		b    []byte
		want uint16
	}{
		{nil, 65535},
		{[]byte{}, 65535},
		{[]byte{2, 7}, 4673},
		{[]byte("123456789"), 19255},
		{[]byte{0}, 0x40BF},
		{[]byte{255}, 0x00FF},
		{[]byte{255, 255}, 0},
		{[]byte{1, 3, 0, 0, 0, 10}, 0xCDC5},
	} {
		if got := Sum(x.b); got != x.want {
			t.Errorf("Sum(%v) = %d, want %d", x.b, got, x.want)
		}
	}
}

// P1.1: a sum begins with 65535, and goes on byte by byte.
func TestSumGoesOnByteByByte(t *testing.T) {
	for _, b := range samples() {
		if got, want := Sum(b), slowSum(b); got != want {
			t.Errorf("Sum of %d bytes = %d, want %d", len(b), got, want)
		}
		sum := uint16(65535)
		for _, c := range b {
			sum = Next(sum, c)
		}
		if got := Sum(b); got != sum {
			t.Errorf("Sum of %d bytes = %d, by Next %d", len(b), got, sum)
		}
	}
}

// P1.2: the check sum stands behind the bytes, the lower eight bits first.
func TestPutKnownBytes(t *testing.T) {
	for _, x := range []struct{ b, want []byte }{
		{nil, []byte{255, 255}},
		{[]byte{}, []byte{255, 255}},
		{[]byte{0}, []byte{0, 0xBF, 0x40}},
		{[]byte{2, 7}, []byte{2, 7, 65, 18}},
		{[]byte{1, 3, 0, 0, 0, 10}, []byte{1, 3, 0, 0, 0, 10, 0xC5, 0xCD}},
	} {
		if got := Put(x.b); !bytes.Equal(got, x.want) {
			t.Errorf("Put(%v) = %v, want %v", x.b, got, x.want)
		}
	}
}

// P1.2: of any bytes.
func TestPutIsBytesAndSum(t *testing.T) {
	for _, b := range samples() {
		sum := slowSum(b)
		want := append(bytes.Clone(b), byte(sum%256), byte(sum/256))
		if got := Put(b); !bytes.Equal(got, want) {
			t.Errorf("Put of %d bytes is wrong", len(b))
		}
	}
}

// P1.2: what is cut is what stands before the last two bytes.
func TestCutKnownFrames(t *testing.T) {
	for _, x := range []struct{ b, want []byte }{
		{[]byte{255, 255}, nil},
		{[]byte{0, 0xBF, 0x40}, []byte{0}},
		{[]byte{255, 255, 0, 0}, []byte{255, 255}},
		{[]byte{2, 7, 65, 18}, []byte{2, 7}},
		{[]byte{1, 3, 0, 0, 0, 10, 0xC5, 0xCD}, []byte{1, 3, 0, 0, 0, 10}},
	} {
		if got, e := Cut(x.b); e != api.OK || !bytes.Equal(got, x.want) {
			t.Errorf("Cut(%v) = %v, %d, want %v", x.b, got, e, x.want)
		}
	}
}

// P1.2: with fewer than two bytes there is no frame, whatever they are.
func TestCutTooShort(t *testing.T) {
	l := [][]byte{nil, {}}
	for c := range 256 {
		l = append(l, []byte{byte(c)})
	}
	for _, b := range l {
		if got, e := Cut(b); e != api.ErrFrame || len(got) != 0 {
			t.Errorf("Cut(%v) = %v, %d, want ErrFrame alone", b, got, e)
		}
	}
}

// P1.2: before no bytes, and before two, exactly one pair of bytes is the check sum.
func TestCutTakesOneSumOnly(t *testing.T) {
	for _, body := range [][]byte{nil, {2, 7}} {
		sum := slowSum(body)
		for tail := range 65536 {
			b := append(bytes.Clone(body), byte(tail), byte(tail>>8))
			got, e := Cut(b)
			if uint16(tail) == sum {
				if e != api.OK || !bytes.Equal(got, body) {
					t.Errorf("Cut(%v) = %v, %d, want %v", b, got, e, body)
				}
			} else if e != api.ErrCheck || len(got) != 0 {
				t.Errorf("Cut(%v) = %v, %d, want ErrCheck alone", b, got, e)
			}
		}
	}
}

// P1.2: the higher eight bits first are no check sum; a byte that is missing, another order, and no sum at all are met.
func TestCutWrongFrames(t *testing.T) {
	for _, b := range [][]byte{
		{2, 7, 18, 65},
		{2, 7, 65, 18, 1},
		{2, 7, 65},
		{7, 65, 18},
		{7, 2, 65, 18},
		{0, 0},
		{2, 7},
	} {
		if got, e := Cut(b); e != api.ErrCheck || len(got) != 0 {
			t.Errorf("Cut(%v) = %v, %d, want ErrCheck alone", b, got, e)
		}
	}
}

// P1.3: what is put is cut again.
func TestCutOfPut(t *testing.T) {
	for _, b := range samples() {
		if got, e := Cut(Put(b)); e != api.OK || !bytes.Equal(got, b) {
			t.Errorf("Cut of Put of %d bytes: error %d", len(b), e)
		}
	}
}

// turn: inverts the bits of pattern in b, from bit at on (those of a byte from its lowest one up).
func turn(b []byte, at int, pattern uint16) {
	for i := range 16 {
		if pattern>>i&1 == 1 {
			b[(at+i)/8] ^= 1 << ((at + i) % 8)
		}
	}
}

// P1.3: all ways of inverting bits within 16 neighbouring ones, at all places, are met.
func TestCutMeetsTurnedBits(t *testing.T) {
	for _, body := range [][]byte{nil, {0}, {2, 7}, {1, 3, 0, 0, 0, 10}} {
		b := Put(body)
		for at := range 8*len(b) - 15 {
			for pattern := 1; pattern < 65536; pattern++ {
				turn(b, at, uint16(pattern))
				if got, e := Cut(b); e != api.ErrCheck || len(got) != 0 {
					t.Fatalf("Cut(%v) = %v, %d, want ErrCheck alone", b, got, e)
				}
				turn(b, at, uint16(pattern))
			}
		}
	}
}

// P1.3: so are some of them in a frame of the greatest size.
func TestCutMeetsTurnedBitsOfLongFrame(t *testing.T) {
	b := Put(sample(254))
	for at := range 8*len(b) - 15 {
		for _, pattern := range []uint16{1, 3, 0x8001, 0xA001, 0xC002, 0xFFFF, 0x5555, 0x1021} {
			turn(b, at, pattern)
			if got, e := Cut(b); e != api.ErrCheck || len(got) != 0 {
				t.Fatalf("bits %b from %d on: %d bytes, %d, want ErrCheck alone", pattern, at, len(got), e)
			}
			turn(b, at, pattern)
		}
	}
}

// R3: no argument changes, its spare capacity neither.
func TestArgumentsStay(t *testing.T) {
	whole := append(Put([]byte{2, 7}), 9, 9, 9, 9)
	before := bytes.Clone(whole)
	for n := range len(whole) + 1 {
		b := whole[:n]
		Sum(b)
		Put(b)
		Cut(b)
		if !bytes.Equal(whole, before) {
			t.Fatalf("with %d bytes the argument became %v", n, whole)
		}
	}
}

// R3: results are new memory, spare capacity and all.
func TestResultsAreNew(t *testing.T) {
	b := append(Put([]byte{2, 7}), 9, 9)[:4]
	want := bytes.Clone(b[:cap(b)])
	scribble := func(r []byte) {
		r = r[:cap(r)]
		for i := range r {
			r[i] ^= 255
		}
	}
	first := Put(b)
	scribble(Put(b))
	if !bytes.Equal(first[:4], b) || !bytes.Equal(b[:cap(b)], want) {
		t.Error("what Put answers is shared")
	}
	body, e := Cut(b)
	if e != api.OK {
		t.Fatal(e)
	}
	again, _ := Cut(b)
	scribble(again)
	if !bytes.Equal(body, []byte{2, 7}) || !bytes.Equal(b[:cap(b)], want) {
		t.Error("what Cut answers is shared")
	}
}

// R4: a call hangs on its arguments alone, whatever was called before, and by whom.
func TestCallsAreAlike(t *testing.T) {
	done := make(chan uint16)
	for range 8 {
		go func() { done <- Sum(sample(1000)) }()
	}
	want := slowSum(sample(1000))
	for range 8 {
		if got := <-done; got != want {
			t.Errorf("Sum = %d, want %d", got, want)
		}
	}
}
