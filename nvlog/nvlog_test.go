package nvlog_test

import (
	"bytes"
	"encoding/binary"
	"fmt"
	"hash/crc32"
	"math"
	"math/rand/v2"
	"slices"
	"testing"

	"saucier/api"
	"saucier/disk"
	"saucier/nvlog"
)

// right: is x right, by the words of the chapter?
func right(x api.Record) bool {
	switch x.What {
	case 1, 4:
		return x.Who == 0 && !x.Yes && len(x.Text) == 0
	case 2:
		return x.Who != 0 && !x.Yes && len(x.Text) < 8193
	case 3:
		return x.Who == 0 && len(x.Text) == 0
	}
	return false
}

// written: the bytes of x, by the words of the chapter, whether x is right or not.
func written(x api.Record) []byte {
	b := binary.BigEndian.AppendUint32([]byte{x.What}, x.Tx)
	b = append(b, x.Who)
	if x.Yes {
		b = append(b, 1)
	} else {
		b = append(b, 0)
	}
	b = binary.BigEndian.AppendUint16(b, uint16(len(x.Text)))
	return signed(append(b, x.Text...))
}

// signed: b with its check sum behind it.
func signed(b []byte) []byte {
	return binary.BigEndian.AppendUint32(slices.Clone(b), crc32.ChecksumIEEE(b))
}

// all: the bytes of records, one after the other.
func all(l []api.Record) []byte {
	var b []byte
	for _, x := range l {
		b = append(b, written(x)...)
	}
	return b
}

// same: are both the same records?
func same(a, b []api.Record) bool {
	return slices.EqualFunc(a, b, func(x, y api.Record) bool {
		return x.What == y.What && x.Tx == y.Tx && x.Who == y.Who && x.Yes == y.Yes && bytes.Equal(x.Text, y.Text)
	})
}

// dice: chance that falls alike in each run.
func dice(seed uint64) *rand.Rand { return rand.New(rand.NewPCG(seed, 10)) }

// sample: n bytes by chance.
func sample(r *rand.Rand, n int) []byte {
	b := make([]byte, n)
	for i := range b {
		b[i] = byte(r.Uint32())
	}
	return b
}

// record: a right record by chance, with a text of at most so many bytes.
func record(r *rand.Rand, most int) api.Record {
	x := api.Record{What: uint8(1 + r.IntN(4)), Tx: r.Uint32() >> r.IntN(32)}
	switch x.What {
	case api.RecBegin:
		x.Who, x.Text = uint8(1+r.IntN(255)), sample(r, r.IntN(most+1))
	case api.RecDecide:
		x.Yes = r.IntN(2) == 1
	}
	return x
}

// records: so many right records by chance.
func records(r *rand.Rand, n, most int) []api.Record {
	var l []api.Record
	for range n {
		l = append(l, record(r, most))
	}
	return l
}

// some: a record of each kind and of each answer, with texts of several lengths.
func some() []api.Record {
	return []api.Record{
		{What: api.RecReserve, Tx: 0x01020304},
		{What: api.RecBegin, Tx: 0xfffefdfc, Who: 0x81, Text: []byte("ab\x00\xff")},
		{What: api.RecDecide, Tx: 5, Yes: true},
		{What: api.RecBegin, Tx: 7, Who: 255},
		{What: api.RecDecide, Tx: 1 << 31},
		{What: api.RecEnd, Tx: 258},
		{What: api.RecBegin, Who: 1, Text: bytes.Repeat([]byte{2, 0}, 150)},
	}
}

// wrongs: records that are not right.
func wrongs() []api.Record {
	return []api.Record{
		{},
		{What: 5},
		{What: 255, Who: 1},
		{What: api.RecReserve, Who: 1},
		{What: api.RecReserve, Yes: true},
		{What: api.RecReserve, Text: []byte{0}},
		{What: api.RecBegin},
		{What: api.RecBegin, Text: []byte("a")},
		{What: api.RecBegin, Who: 1, Yes: true},
		{What: api.RecBegin, Who: 1, Text: make([]byte, 8193)},
		{What: api.RecDecide, Who: 128},
		{What: api.RecDecide, Yes: true, Text: []byte{0}},
		{What: api.RecEnd, Who: 255},
		{What: api.RecEnd, Yes: true},
		{What: api.RecEnd, Text: []byte{0}},
	}
}

// met fails unless the error is the one that is wanted.
func met(t *testing.T, what string, got, want api.Errno) {
	t.Helper()
	if got != want {
		t.Fatalf("%s: error %d, want %d", what, got, want)
	}
}

// diskOf: a disk with these bytes, all of them safe.
func diskOf(t *testing.T, room int, b []byte) *disk.Disk {
	t.Helper()
	d, e := disk.New(room)
	met(t, "New", e, api.OK)
	met(t, "disk's Append", d.Append(b), api.OK)
	met(t, "disk's Sync", d.Sync(), api.OK)
	return d
}

// opened: the log of d, which has the records that are wanted, and nothing behind them.
func opened(t *testing.T, d *disk.Disk, want []api.Record) *nvlog.Log {
	t.Helper()
	l, have, e := nvlog.Open(d)
	if e != api.OK || l == nil || !same(have, want) {
		t.Fatalf("Open: %v, %v, error %d, want %v", l, have, e, want)
	}
	stands(t, d, all(want))
	return l
}

// shut: Open returns this error, and nothing else.
func shut(t *testing.T, d *disk.Disk, want api.Errno) {
	t.Helper()
	if l, have, e := nvlog.Open(d); l != nil || have != nil || e != want {
		t.Fatalf("Open: %v, %v, error %d, want %d", l, have, e, want)
	}
}

// stands fails unless d has these bytes, all of them safe.
func stands(t *testing.T, d *disk.Disk, want []byte) {
	t.Helper()
	if !bytes.Equal(d.Bytes(), want) || d.Safe() != len(want) {
		t.Fatalf("%v on the disk, %d safe, want %v", d.Bytes(), d.Safe(), want)
	}
}

// reads fails unless Read finds these records in b, and nothing behind them.
func reads(t *testing.T, b []byte, want []api.Record) {
	t.Helper()
	if got, n := nvlog.Read(b); !same(got, want) || n != len(all(want)) {
		t.Fatalf("Read(%v) = %v, %d, want %v, %d", b, got, n, want, len(all(want)))
	}
}

// The chapter's examples.
func TestExamples(t *testing.T) {
	end := api.Record{What: api.RecEnd, Tx: 258}
	b, e := nvlog.Bytes(end)
	if want := []byte{4, 0, 0, 1, 2, 0, 0, 0, 0, 0x0a, 0x79, 0xc5, 0x67}; e != api.OK || !bytes.Equal(b, want) {
		t.Errorf("%v, %d, want %v", b, e, want)
	}
	reads(t, b, []api.Record{end})
	if l, n := nvlog.Read(b[:12]); len(l) != 0 || n != 0 {
		t.Error(l, n)
	}
	if b, e := nvlog.Bytes(api.Record{What: api.RecBegin}); b != nil || e != api.ErrText {
		t.Error(b, e)
	}
}

// P10.1: all kinds with all fields, right or not.
func TestRightAndBytes(t *testing.T) {
	texts := [][]byte{nil, {}, {0}, []byte("ab"), make([]byte, 255), make([]byte, 256), make([]byte, 8191), make([]byte, 8192),
		make([]byte, 8193), make([]byte, 65535), make([]byte, 65536), make([]byte, 65537), make([]byte, 65536+8192)}
	for what := range 256 {
		for _, who := range []uint8{0, 1, 2, 127, 128, 255} {
			for _, yes := range []bool{false, true} {
				for i, text := range texts {
					if what > 8 && i > 3 {
						continue
					}
					x := api.Record{What: uint8(what), Tx: uint32(what) << 24, Who: who, Yes: yes, Text: text}
					rightMeets(t, x)
				}
			}
		}
	}
}

// rightMeets: Right, Bytes and Read say of x what the chapter does.
func rightMeets(t *testing.T, x api.Record) {
	t.Helper()
	if got := nvlog.Right(x); got != right(x) {
		t.Fatalf("Right(%d %d %v, %d bytes) = %v", x.What, x.Who, x.Yes, len(x.Text), got)
	}
	b, e := nvlog.Bytes(x)
	if !right(x) {
		if b != nil || e != api.ErrText {
			t.Fatalf("Bytes(%d %d %v, %d bytes) = %v, %d", x.What, x.Who, x.Yes, len(x.Text), b, e)
		}
		reads(t, written(x), nil)
		return
	}
	if e != api.OK || !bytes.Equal(b, written(x)) || len(b) != 13+len(x.Text) {
		t.Fatalf("Bytes(%d %d %v, %d bytes) = %v, %d", x.What, x.Who, x.Yes, len(x.Text), b, e)
	}
	reads(t, b, []api.Record{x})
}

// P10.1: each field of a record stands where the chapter says, whatever it is.
func TestFieldsByChance(t *testing.T) {
	r := dice(1)
	for range 20000 {
		rightMeets(t, record(r, 40))
	}
	for _, tx := range []uint32{0, 1, 255, 256, 65535, 65536, 1<<24 - 1, 1 << 24, 1<<31 - 1, 1 << 31, 1<<32 - 1} {
		for what := range uint8(4) {
			x := api.Record{What: what + 1, Tx: tx}
			rightMeets(t, x)
			x.Who = 9
			rightMeets(t, x)
		}
	}
}

// P10.1: records one after the other, with whatever behind them that is none.
func TestRead(t *testing.T) {
	r := dice(2)
	reads(t, nil, nil)
	reads(t, []byte{}, nil)
	for range 2000 {
		l := records(r, r.IntN(6), 30)
		b := all(l)
		reads(t, b, l)
		reads(t, append(slices.Clone(b), 0), l)
		reads(t, append(slices.Clone(b), make([]byte, 40)...), l)
		reads(t, append(slices.Clone(b), bytes.Repeat([]byte{255}, 40)...), l)
		reads(t, append(slices.Clone(b), 9, 9, 9, 9, 9, 9, 9, 9, 9, 9, 9, 9, 9), l)
		again := append(append(slices.Clone(b), 0), written(api.Record{What: api.RecEnd, Tx: 3})...)
		reads(t, again, l)
	}
	l := records(r, 3000, 20)
	reads(t, all(l), l)
}

// P10.1: of what has a fitting check sum nothing is a record but the bytes of a right one.
func TestReadWhatIsNotRight(t *testing.T) {
	before := some()
	for _, x := range wrongs() {
		reads(t, written(x), nil)
		reads(t, append(all(before), written(x)...), before)
	}
	for yes := 2; yes < 256; yes++ {
		b := []byte{api.RecDecide, 0, 0, 0, 7, 0, byte(yes), 0, 0}
		reads(t, signed(b), nil)
		reads(t, append(all(before), signed(b)...), before)
	}
	long := append([]byte{api.RecBegin, 0, 0, 0, 7, 1, 0, 0x20, 1}, make([]byte, 8193)...)
	reads(t, signed(long), nil)
	longest := append([]byte{api.RecBegin, 0, 0, 0, 7, 1, 0, 255, 255}, make([]byte, 65535)...)
	reads(t, signed(longest), nil)
	lacks := append([]byte{api.RecBegin, 0, 0, 0, 7, 1, 0, 0, 3}, "ab"...)
	reads(t, signed(lacks), nil)
	more := append([]byte{api.RecBegin, 0, 0, 0, 7, 1, 0, 0, 1}, "ab"...)
	reads(t, signed(more), nil)
}

// P10.1: bytes in which a few neighbouring ones are others say nothing from the record on that has them.
func TestReadOfChangedBytes(t *testing.T) {
	l := some()
	b := all(l)
	from := 0
	for i, x := range l {
		size := len(written(x))
		for at := from; at < from+size; at++ {
			for bit := range 8 {
				c := slices.Clone(b)
				c[at] ^= 1 << bit
				if got, n := nvlog.Read(c); !same(got, l[:i]) || n != from {
					t.Fatalf("byte %d, bit %d: %v, %d", at, bit, got, n)
				}
			}
			for _, other := range []byte{0, 1, 255, b[at] + 1, b[at] - 1} {
				c := slices.Clone(b)
				c[at] = other
				if got, n := nvlog.Read(c); other != b[at] && (!same(got, l[:i]) || n != from) {
					t.Fatalf("byte %d is %d: %v, %d", at, other, got, n)
				}
			}
		}
		from += size
	}
}

// P10.1, P10.4: bytes that are cut have the records that are whole, and no other.
func TestReadOfCutBytes(t *testing.T) {
	r := dice(3)
	for range 100 {
		l := records(r, 1+r.IntN(6), 40)
		b := all(l)
		for n := range len(b) + 1 {
			whole := 0
			for whole < len(l) && len(all(l[:whole+1])) <= n {
				whole++
			}
			reads(t, b[:n:n], l[:whole])
			reads(t, b[:n], l[:whole])
		}
	}
}

// P10.2: a disk's records; what is left behind them is cut off; all is safe.
func TestOpen(t *testing.T) {
	r := dice(4)
	for range 500 {
		l := records(r, r.IntN(6), 30)
		left := [][]byte{nil, {0}, written(record(r, 20))[:1+r.IntN(12)], sample(r, 30), make([]byte, 50)}[r.IntN(5)]
		d := diskOf(t, 1000, append(all(l), left...))
		opened(t, d, l)
		opened(t, d, l)
		d.Crash(0)
		log := opened(t, d, l)
		x := record(r, 30)
		met(t, "Append", log.Append(x), api.OK)
		opened(t, d, append(l, x))
	}
}

// P10.2: what was not safe is.
func TestOpenSyncs(t *testing.T) {
	for _, left := range []int{0, 1, 12} {
		d, b := diskOf(t, 1000, all(some()[:2])), all(some()[2:])
		met(t, "disk's Append", d.Append(b), api.OK)
		met(t, "disk's Append", d.Append(b[:left]), api.OK)
		opened(t, d, some())
		d.Crash(0)
		opened(t, d, some())
	}
}

// P10.2: a cut and a sync need a spark each.
func TestOpenBySparks(t *testing.T) {
	l := some()
	whole, torn := all(l), append(all(l), 4, 0, 0)
	for _, c := range []struct {
		b      []byte
		sparks int
		e      api.Errno
		left   []byte
	}{
		{whole, 0, api.ErrOff, whole},
		{whole, 1, api.OK, whole},
		{nil, 0, api.ErrOff, nil},
		{nil, 1, api.OK, nil},
		{torn, 0, api.ErrOff, torn},
		{torn, 1, api.ErrOff, whole},
		{torn, 2, api.OK, whole},
		{torn, -1, api.OK, whole},
	} {
		d := diskOf(t, 1000, c.b)
		d.Sparks(c.sparks)
		if c.e != api.OK {
			shut(t, d, c.e)
		} else if _, have, e := nvlog.Open(d); e != api.OK || !bytes.Equal(all(have), c.left) {
			t.Fatalf("%d sparks: %v, %d", c.sparks, have, e)
		}
		if !bytes.Equal(d.Bytes(), c.left) {
			t.Fatalf("%d sparks: %v, want %v", c.sparks, d.Bytes(), c.left)
		}
		if c.sparks >= 0 {
			met(t, "disk's Sync", d.Sync(), api.ErrOff)
			shut(t, d, api.ErrOff)
		}
		d.Crash(0)
		log, have, e := nvlog.Open(d)
		if log == nil || e != api.OK || !bytes.Equal(all(have), d.Bytes()) {
			t.Fatalf("%d sparks, and a crash: %v, %d", c.sparks, have, e)
		}
	}
}

// P10.3: the bytes of a record, up to the last one for which there is a spark, and a sync.
func TestAppendBySparks(t *testing.T) {
	l := some()
	for i, x := range l {
		before, b := all(l[:i]), written(x)
		for sparks := range len(b) + 3 {
			d := diskOf(t, 1000, before)
			log := opened(t, d, l[:i])
			d.Sparks(sparks)
			if sparks > len(b) {
				met(t, "Append", log.Append(x), api.OK)
				stands(t, d, append(slices.Clone(before), b...))
				for range sparks - len(b) - 1 {
					met(t, "disk's Sync", d.Sync(), api.OK)
				}
				met(t, "Append", log.Append(x), api.ErrOff)
				continue
			}
			met(t, "Append", log.Append(x), api.ErrOff)
			if want := append(slices.Clone(before), b[:sparks]...); !bytes.Equal(d.Bytes(), want) || d.Safe() != len(before) || !d.Off() {
				t.Fatalf("%v, %d safe, want %v", d.Bytes(), d.Safe(), want)
			}
			if log.Free() != 1000-len(before)-sparks {
				t.Fatal(log.Free())
			}
			met(t, "Append", log.Append(x), api.ErrOff)
		}
	}
}

// P10.3: without room for the whole record nothing is changed, and no spark is used up.
func TestAppendWithoutRoom(t *testing.T) {
	x := api.Record{What: api.RecBegin, Tx: 3, Who: 4, Text: []byte("abcde")}
	for room := range 40 {
		d := diskOf(t, room, nil)
		log, have := opened(t, d, nil), []api.Record(nil)
		d.Sparks(room + 4)
		for free := room; free >= 18; free -= 18 {
			met(t, "Append", log.Append(x), api.OK)
			have = append(have, x)
		}
		met(t, "Append", log.Append(x), api.ErrFull)
		met(t, "Append", log.Append(x), api.ErrFull)
		stands(t, d, all(have))
		if log.Free() != room-18*len(have) {
			t.Fatal(log.Free())
		}
		for range room + 4 - 19*len(have) {
			met(t, "disk's Sync", d.Sync(), api.OK)
		}
		met(t, "disk's Sync", d.Sync(), api.ErrOff)
		met(t, "Append", log.Append(x), api.ErrOff)
	}
}

// P10.3: of several errors the first one; and a record that is not right changes nothing.
func TestErrorsOfAppend(t *testing.T) {
	x := api.Record{What: api.RecEnd, Tx: 2}
	for _, wrong := range wrongs() {
		d := diskOf(t, 20, nil)
		log := opened(t, d, nil)
		met(t, "Append", log.Append(wrong), api.ErrText)
		stands(t, d, nil)
		met(t, "Append", log.Append(x), api.OK)
		met(t, "Append", log.Append(x), api.ErrFull)
		met(t, "Append", log.Append(wrong), api.ErrText)
		d.Sparks(0)
		met(t, "Append", log.Append(wrong), api.ErrText)
		met(t, "disk's Sync", d.Sync(), api.ErrOff)
		met(t, "Append", log.Append(wrong), api.ErrText)
		met(t, "Append", log.Append(x), api.ErrOff)
		stands(t, d, written(x))
	}
}

// P10.3: a record with the greatest text, on the greatest disk, up to its last byte.
func TestGreatestLog(t *testing.T) {
	r := dice(5)
	d := diskOf(t, 262144, nil)
	log := opened(t, d, nil)
	var want []api.Record
	for log.Free() >= 8205 {
		x := api.Record{What: api.RecBegin, Tx: r.Uint32(), Who: 255, Text: sample(r, 8192)}
		met(t, "Append", log.Append(x), api.OK)
		want = append(want, x)
	}
	met(t, "Append", log.Append(want[0]), api.ErrFull)
	last := api.Record{What: api.RecBegin, Who: 1, Text: sample(r, log.Free()-13)}
	met(t, "Append", log.Append(last), api.OK)
	want = append(want, last)
	if log.Free() != 0 || len(want) != 32 {
		t.Fatal(log.Free(), len(want))
	}
	met(t, "Append", log.Append(api.Record{What: api.RecEnd}), api.ErrFull)
	opened(t, d, want)
}

// P10.3: for how many more bytes there is room, whoever took what.
func TestFree(t *testing.T) {
	d := diskOf(t, 100, nil)
	log := opened(t, d, nil)
	if log.Free() != 100 {
		t.Error(log.Free())
	}
	met(t, "Append", log.Append(api.Record{What: api.RecBegin, Who: 5, Text: []byte("abc")}), api.OK)
	if log.Free() != 84 {
		t.Error(log.Free())
	}
	met(t, "disk's Append", d.Append([]byte{4}), api.OK)
	d.Sparks(0)
	met(t, "Append", log.Append(api.Record{What: api.RecEnd}), api.ErrOff)
	if log.Free() != 83 {
		t.Error(log.Free())
	}
	d.Crash(0)
	again, have, e := nvlog.Open(d)
	if e != api.OK || len(have) != 1 || again.Free() != 84 || log.Free() != 84 {
		t.Error(have, e, log.Free())
	}
	none, _ := disk.New(0)
	if log := opened(t, none, nil); log.Free() != 0 {
		t.Error(log.Free())
	}
}

// P10.4: whenever the power fails, and whatever stays, there are the records that were acknowledged, and possibly the one under way.
func TestWhatIsAcknowledgedStays(t *testing.T) {
	l := []api.Record{{What: api.RecReserve, Tx: 9}, {What: api.RecBegin, Tx: 1, Who: 5, Text: []byte("abc")}, {What: api.RecDecide, Tx: 1, Yes: true}, {What: api.RecEnd, Tx: 1}}
	for sparks := range len(all(l)) + len(l) + 2 {
		for keep := -1; keep < 20; keep++ {
			d := diskOf(t, 100, nil)
			log := opened(t, d, nil)
			d.Sparks(sparks)
			said := 0
			for said < len(l) && log.Append(l[said]) == api.OK {
				said++
			}
			d.Crash(keep)
			under := 0
			if said < len(l) && d.Len() == len(all(l[:said+1])) {
				under = 1
			}
			opened(t, d, l[:said+under])
			opened(t, d, l[:said+under])
		}
	}
}

// P10.4: crashes one after the other, also while a log is opened.
func TestCrashesByChance(t *testing.T) {
	r := dice(6)
	for range 2000 {
		d := diskOf(t, 600, nil)
		var sure, under []api.Record
		for range 12 {
			d.Sparks(r.IntN(60) - 3)
			log, have, e := nvlog.Open(d)
			if e == api.OK {
				if !same(have, sure) && !same(have, append(slices.Clone(sure), under...)) {
					t.Fatalf("%v, want %v, and possibly %v", have, sure, under)
				}
				sure, under = have, nil
			}
			for e == api.OK {
				x := record(r, 20)
				switch e = log.Append(x); e {
				case api.OK:
					sure = append(sure, x)
				case api.ErrOff:
					under = []api.Record{x}
				}
			}
			d.Crash(r.IntN(40) - 2)
		}
	}
}

// R5: nil, and what was not returned by Open, or by New.
func TestNoLog(t *testing.T) {
	shut(t, nil, api.ErrNil)
	shut(t, &disk.Disk{}, api.ErrNil)
	for _, l := range []*nvlog.Log{nil, {}, new(nvlog.Log)} {
		for _, x := range append(some(), wrongs()...) {
			met(t, "Append", l.Append(x), api.ErrNil)
		}
		if l.Free() != 0 {
			t.Error(l.Free())
		}
	}
}

// R1: Read ends and doesn't panic, whatever the bytes.
func TestReadOfAnything(t *testing.T) {
	r := dice(7)
	for range 50000 {
		b := sample(r, r.IntN(40))
		if len(b) > 8 {
			b[0], b[7] = byte(r.IntN(6)), byte(r.IntN(2))
		}
		if l, n := nvlog.Read(b); !bytes.Equal(all(l), b[:n]) {
			t.Fatal(b, l, n)
		}
	}
	for _, n := range []int{1, 8, 9, 12, 13, 14, 65535, 65544, 65548, 65549, 1 << 20} {
		reads(t, make([]byte, n), nil)
		reads(t, bytes.Repeat([]byte{255}, n), nil)
		reads(t, bytes.Repeat([]byte{2}, n), nil)
	}
}

// R3: neither what is handed in is changed or kept, nor what stands behind it.
func TestArgumentsStay(t *testing.T) {
	room := []byte("abcdefghijklmnopqrstuvwxyz")
	x := api.Record{What: api.RecBegin, Tx: 1, Who: 1, Text: room[:3]}
	d := diskOf(t, 100, nil)
	log := opened(t, d, nil)
	b, _ := nvlog.Bytes(x)
	nvlog.Right(x)
	met(t, "Append", log.Append(x), api.OK)
	if string(room) != "abcdefghijklmnopqrstuvwxyz" {
		t.Fatal(string(room))
	}
	want := slices.Clone(b)
	long := append(slices.Clone(b), "behind it"...)
	l, _ := nvlog.Read(long[:len(b)])
	if !bytes.Equal(long, append(slices.Clone(b), "behind it"...)) {
		t.Fatal(long)
	}
	clear(room)
	clear(long)
	if !bytes.Equal(b, want) || string(l[0].Text) != "abc" {
		t.Fatal(b, l)
	}
	stands(t, d, want)
}

// R3: what is returned has memory of its own, each text for itself, their spare capacity too.
func TestResultsAreNew(t *testing.T) {
	l := []api.Record{{What: api.RecBegin, Tx: 1, Who: 1, Text: []byte("abc")}, {What: api.RecBegin, Tx: 2, Who: 1, Text: []byte("def")}}
	d := diskOf(t, 100, all(l))
	_, have, _ := nvlog.Open(d)
	read, _ := nvlog.Read(d.Bytes())
	one, _ := nvlog.Bytes(l[0])
	two, _ := nvlog.Bytes(l[0])
	for _, got := range [][]api.Record{have, read} {
		text := append(got[0].Text, "0123456789012345678901234567890"...)
		copy(text, "xyz")
		copy(got[0].Text, "xyz")
		if string(got[1].Text) != "def" {
			t.Error(got)
		}
	}
	clear(one)
	if !bytes.Equal(two, written(l[0])) {
		t.Error(two)
	}
	opened(t, d, l)
}

// R3: a log and its disk are shared, as the chapter says: two logs of one disk write to the same.
func TestTwoLogsOfOneDisk(t *testing.T) {
	d := diskOf(t, 100, nil)
	a, b := opened(t, d, nil), opened(t, d, nil)
	x, y := api.Record{What: api.RecReserve, Tx: 1}, api.Record{What: api.RecEnd, Tx: 2}
	met(t, "Append", a.Append(x), api.OK)
	met(t, "Append", b.Append(y), api.OK)
	met(t, "Append", a.Append(y), api.OK)
	if a.Free() != 61 || b.Free() != 61 {
		t.Error(a.Free(), b.Free())
	}
	opened(t, d, []api.Record{x, y, y})
}

// R4: logs know nothing of each other, whoever uses them.
func TestCallsAreAlike(t *testing.T) {
	ask := func() string {
		r, text := dice(8), ""
		d, _ := disk.New(300)
		for range 60 {
			l, have, e := nvlog.Open(d)
			text += fmt.Sprintln(have, e, l.Free())
			d.Sparks(r.IntN(90))
			for range 3 {
				text += fmt.Sprintln(l.Append(record(r, 10)), l.Free())
			}
			d.Crash(r.IntN(math.MaxInt8))
			if d.Room()-d.Len() < 50 {
				d, _ = disk.New(300)
			}
		}
		return text
	}
	want := ask()
	done := make(chan string)
	for range 8 {
		go func() { done <- ask() }()
	}
	for range 8 {
		if got := <-done; got != want {
			t.Errorf("%s, want %s", got, want)
		}
	}
}
