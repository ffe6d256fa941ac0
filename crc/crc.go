// Package crc is layer 1: the check sums of frames on a serial line (the CRC-16 of Modbus).
package crc

import "saucier/api"

const (
	start  = 65535 // the check sum of no bytes
	turned = 40961 // what is combined with a check sum whose lowest bit, shifted out, was 1
	size   = 2     // bytes of a check sum in a frame
)

// Next: the check sum after one more byte.
func Next(sum uint16, c byte) uint16 {
	table := nibbles()
	return step(&table, sum, c)
}

// Sum: the check sum of b.
func Sum(b []byte) uint16 {
	table := nibbles()
	sum := uint16(start)
	for _, c := range b {
		sum = step(&table, sum, c)
	}
	return sum
}

// Put: b and its check sum behind it, the lower eight bits first.
func Put(b []byte) []byte {
	sum := Sum(b)
	out := make([]byte, 0, len(b)+size)
	out = append(out, b...)
	return append(out, byte(sum), byte(sum>>8))
}

// Cut: the bytes before the check sum that stands at the end of b.
func Cut(b []byte) ([]byte, api.Errno) {
	if len(b) < size {
		return nil, api.ErrFrame
	}
	body, tail := b[:len(b)-size], b[len(b)-size:]
	if Sum(body) != uint16(tail[0])|uint16(tail[1])<<8 {
		return nil, api.ErrCheck
	}
	return append([]byte(nil), body...), api.OK
}

// nibbles: for each four bits, the check sum that they alone become when they are shifted out.
// It is made anew by each call, so that nothing is kept between them.
func nibbles() [16]uint16 {
	var table [16]uint16
	for i := range len(table) {
		sum := uint16(i)
		for range 4 {
			sum = shift(sum)
		}
		table[i] = sum
	}
	return table
}

// shift: the check sum after one bit.
func shift(sum uint16) uint16 {
	if sum&1 == 1 {
		return sum>>1 ^ turned
	}
	return sum >> 1
}

// step: the check sum after one more byte, four bits at a time.
func step(table *[16]uint16, sum uint16, c byte) uint16 {
	sum ^= uint16(c)
	for range 2 {
		sum = sum>>4 ^ table[sum&15]
	}
	return sum
}
