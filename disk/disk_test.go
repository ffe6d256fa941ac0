package disk_test

import (
	"bytes"
	"fmt"
	"math"
	"math/rand/v2"
	"slices"
	"testing"

	"saucier/api"
	"saucier/disk"
)

// cell is a byte of a disk, as the chapter speaks of it.
type cell struct {
	b    byte
	safe bool
}

// paper is a disk, by the words of the chapter.
type paper struct {
	room      int
	cells     []cell
	unlimited bool
	sparks    int
	off       bool
}

// paperOf: a disk as it is at first.
func paperOf(room int) *paper { return &paper{room: room, unlimited: true} }

// spark: is there one? It is used up. If there is none the power is off.
func (p *paper) spark() bool {
	switch {
	case p.unlimited:
		return true
	case p.sparks == 0:
		p.off = true
		return false
	}
	p.sparks--
	return true
}

func (p *paper) append(b []byte) api.Errno {
	if p.off {
		return api.ErrOff
	}
	if len(p.cells)+len(b) > p.room {
		return api.ErrFull
	}
	for i := range b {
		if !p.spark() {
			return api.ErrOff
		}
		p.cells = append(p.cells, cell{b: b[i]})
	}
	return api.OK
}

func (p *paper) sync() api.Errno {
	if p.off || !p.spark() {
		return api.ErrOff
	}
	for i := range p.cells {
		p.cells[i].safe = true
	}
	return api.OK
}

func (p *paper) cut(n int) api.Errno {
	if p.off {
		return api.ErrOff
	}
	if n < 0 || n > len(p.cells) {
		return api.ErrArg
	}
	if !p.spark() {
		return api.ErrOff
	}
	p.cells = slices.Clone(p.cells[:n])
	return api.OK
}

func (p *paper) setSparks(n int) { p.unlimited, p.sparks = n < 0, n }

func (p *paper) crash(keep int) {
	var left []cell
	for _, c := range p.cells {
		if !c.safe {
			if keep <= 0 {
				continue
			}
			keep--
		}
		left = append(left, cell{c.b, true})
	}
	*p = paper{room: p.room, cells: left, unlimited: true}
}

// told is all that a disk tells of itself.
type told struct {
	bytes           string
	len, safe, room int
	off             bool
}

func (p *paper) told() told {
	t := told{len: len(p.cells), room: p.room, off: p.off}
	var b []byte
	for _, c := range p.cells {
		b = append(b, c.b)
		if c.safe {
			t.safe++
		}
	}
	t.bytes = string(b)
	return t
}

// toldOf: what d tells of itself.
func toldOf(d *disk.Disk) told {
	return told{string(d.Bytes()), d.Len(), d.Safe(), d.Room(), d.Off()}
}

// dice: chance that falls alike in each run.
func dice(seed uint64) *rand.Rand { return rand.New(rand.NewPCG(seed, 9)) }

// sample: n bytes by chance.
func sample(r *rand.Rand, n int) []byte {
	b := make([]byte, n)
	for i := range b {
		b[i] = byte(r.Uint32())
	}
	return b
}

// fresh: a new disk.
func fresh(t *testing.T, room int) *disk.Disk {
	t.Helper()
	d, e := disk.New(room)
	if d == nil || e != api.OK {
		t.Fatalf("New(%d): %v, %d", room, d, e)
	}
	return d
}

// met fails unless the error is the one that is wanted.
func met(t *testing.T, what string, got, want api.Errno) {
	t.Helper()
	if got != want {
		t.Fatalf("%s: error %d, want %d", what, got, want)
	}
}

// stands fails unless d tells what is wanted.
func stands(t *testing.T, d *disk.Disk, want told) {
	t.Helper()
	if got := toldOf(d); got != want {
		t.Fatalf("%v, want %v", got, want)
	}
}

// act does one thing by chance with a disk and with the one on paper: the errors, and what was done.
func act(r *rand.Rand, d *disk.Disk, p *paper) (got, want api.Errno, what string) {
	switch r.IntN(8) {
	case 0, 1, 2:
		b := sample(r, r.IntN(7))
		return d.Append(b), p.append(b), fmt.Sprint("Append ", b)
	case 3:
		return d.Sync(), p.sync(), "Sync"
	case 4:
		n := len(p.cells) + 2 - r.IntN(len(p.cells)+4)
		return d.Cut(n), p.cut(n), fmt.Sprint("Cut ", n)
	case 5:
		n := r.IntN(14) - 3
		d.Sparks(n)
		p.setSparks(n)
		return 0, 0, fmt.Sprint("Sparks ", n)
	case 6:
		if r.IntN(3) > 0 && !p.off {
			return 0, 0, "nothing"
		}
		keep := r.IntN(9) - 2
		d.Crash(keep)
		p.crash(keep)
		return 0, 0, fmt.Sprint("Crash ", keep)
	}
	b := sample(r, p.room+1-min(len(p.cells), r.IntN(p.room+2)))
	return d.Append(b), p.append(b), fmt.Sprint("Append ", b)
}

// The chapter's examples.
func TestExamples(t *testing.T) {
	d := fresh(t, 9)
	met(t, "Append", d.Append([]byte{1, 2, 3}), api.OK)
	met(t, "Sync", d.Sync(), api.OK)
	met(t, "Append", d.Append([]byte{4, 5}), api.OK)
	d.Crash(1)
	stands(t, d, told{"\x01\x02\x03\x04", 4, 4, 9, false})
	d.Sparks(2)
	met(t, "Append", d.Append([]byte{6, 7, 8}), api.ErrOff)
	stands(t, d, told{"\x01\x02\x03\x04\x06\x07", 6, 4, 9, true})
	met(t, "Sync", d.Sync(), api.ErrOff)
	d.Crash(0)
	stands(t, d, told{"\x01\x02\x03\x04", 4, 4, 9, false})
	met(t, "Append", d.Append([]byte{1, 2, 3, 4, 5, 6}), api.ErrFull)
	met(t, "Cut", d.Cut(2), api.OK)
	stands(t, d, told{"\x01\x02", 2, 2, 9, false})
}

// P9.1: a disk with room for 0 to 2^18 bytes, and none at first.
func TestNew(t *testing.T) {
	for _, room := range []int{0, 1, 2, 1000, 262143, 262144} {
		stands(t, fresh(t, room), told{room: room})
	}
	for _, room := range []int{-1, 262145, 1 << 19, math.MaxInt, math.MinInt, math.MinInt + 1, -1 << 32, 1<<32 + 5} {
		if d, e := disk.New(room); d != nil || e != api.ErrArg {
			t.Errorf("New(%d): %v, %d", room, d, e)
		}
	}
}

// P9.1: a disk with all its room taken.
func TestGreatestDisk(t *testing.T) {
	d, b := fresh(t, 262144), sample(dice(1), 262144)
	met(t, "Append", d.Append(b[:200000]), api.OK)
	met(t, "Append", d.Append(make([]byte, 62145)), api.ErrFull)
	met(t, "Append", d.Append(b[200000:]), api.OK)
	met(t, "Append", d.Append([]byte{1}), api.ErrFull)
	met(t, "Append", d.Append(nil), api.OK)
	stands(t, d, told{string(b), 262144, 0, 262144, false})
	met(t, "Sync", d.Sync(), api.OK)
	stands(t, d, told{string(b), 262144, 262144, 262144, false})
}

// P9.1 to P9.4: whatever is done in whatever order, a disk tells what the chapter says.
func TestDiskIsAsTheChapterSays(t *testing.T) {
	r := dice(2)
	for range 4000 {
		room := r.IntN(20)
		d, p := fresh(t, room), paperOf(room)
		var done []string
		for range 40 {
			got, want, what := act(r, d, p)
			done = append(done, what)
			if got != want || toldOf(d) != p.told() {
				t.Fatalf("%q: error %d and %v, want %d and %v", done, got, toldOf(d), want, p.told())
			}
		}
	}
}

// P9.2: bytes are appended up to the last one for which there is a spark.
func TestAppendBySparks(t *testing.T) {
	for sparks := range 8 {
		d := fresh(t, 10)
		met(t, "Append", d.Append([]byte{9}), api.OK)
		d.Sparks(sparks)
		if sparks < 5 {
			met(t, "Append", d.Append([]byte("abcde")), api.ErrOff)
			stands(t, d, told{"\x09" + "abcde"[:sparks], 1 + sparks, 0, 10, true})
			continue
		}
		met(t, "Append", d.Append([]byte("abcde")), api.OK)
		stands(t, d, told{"\x09abcde", 6, 0, 10, false})
		for range sparks - 5 {
			met(t, "Sync", d.Sync(), api.OK)
		}
		met(t, "Sync", d.Sync(), api.ErrOff)
	}
}

// P9.2: without room for all nothing is changed, and no spark is used up.
func TestAppendWithoutRoom(t *testing.T) {
	d := fresh(t, 4)
	met(t, "Append", d.Append([]byte("ab")), api.OK)
	d.Sparks(1)
	met(t, "Append", d.Append([]byte("cde")), api.ErrFull)
	stands(t, d, told{"ab", 2, 0, 4, false})
	met(t, "Sync", d.Sync(), api.OK)
	met(t, "Append", d.Append([]byte("cde")), api.ErrFull)
	stands(t, d, told{"ab", 2, 2, 4, false})
	met(t, "Append", d.Append([]byte("cd")), api.ErrOff)
	stands(t, d, told{"ab", 2, 2, 4, true})
	met(t, "Append", d.Append([]byte("cde")), api.ErrOff)
	none := fresh(t, 0)
	met(t, "Append", none.Append([]byte{1}), api.ErrFull)
	met(t, "Append", none.Append(nil), api.OK)
	stands(t, none, told{})
}

// P9.2: no bytes need no spark, but power.
func TestAppendOfNoBytes(t *testing.T) {
	d := fresh(t, 3)
	d.Sparks(0)
	met(t, "Append", d.Append(nil), api.OK)
	met(t, "Append", d.Append([]byte{}), api.OK)
	stands(t, d, told{room: 3})
	met(t, "Sync", d.Sync(), api.ErrOff)
	met(t, "Append", d.Append(nil), api.ErrOff)
}

// P9.3: a sync needs a spark, and makes all bytes safe.
func TestSync(t *testing.T) {
	d := fresh(t, 5)
	d.Sparks(4)
	met(t, "Sync", d.Sync(), api.OK)
	met(t, "Append", d.Append([]byte("ab")), api.OK)
	stands(t, d, told{"ab", 2, 0, 5, false})
	met(t, "Sync", d.Sync(), api.OK)
	stands(t, d, told{"ab", 2, 2, 5, false})
	d.Sparks(1)
	met(t, "Append", d.Append([]byte("c")), api.OK)
	met(t, "Sync", d.Sync(), api.ErrOff)
	stands(t, d, told{"abc", 3, 2, 5, true})
}

// P9.3: of the bytes that are left those that were safe still are.
func TestCut(t *testing.T) {
	for safe := range 6 {
		for n := range 6 {
			d := fresh(t, 8)
			met(t, "Append", d.Append([]byte("abcde")[:safe]), api.OK)
			met(t, "Sync", d.Sync(), api.OK)
			met(t, "Append", d.Append([]byte("abcde")[safe:]), api.OK)
			d.Sparks(1)
			for _, wrong := range []int{-1, 6, math.MaxInt, math.MinInt} {
				met(t, "Cut", d.Cut(wrong), api.ErrArg)
			}
			stands(t, d, told{"abcde", 5, safe, 8, false})
			met(t, "Cut", d.Cut(n), api.OK)
			stands(t, d, told{"abcde"[:n], n, min(safe, n), 8, false})
			met(t, "Cut", d.Cut(n+1), api.ErrArg)
			met(t, "Cut", d.Cut(n), api.ErrOff)
			stands(t, d, told{"abcde"[:n], n, min(safe, n), 8, true})
			met(t, "Cut", d.Cut(-1), api.ErrOff)
			d.Crash(9)
			met(t, "Append", d.Append([]byte("xy")), api.OK)
			stands(t, d, told{"abcde"[:n] + "xy", n + 2, n, 8, false})
		}
	}
}

// P9.4: a number of sparks, an unlimited amount; the power stays off.
func TestSparks(t *testing.T) {
	for _, n := range []int{-1, -2, math.MinInt, math.MaxInt} {
		d := fresh(t, 2000)
		d.Sparks(0)
		d.Sparks(n)
		for range 1000 {
			met(t, "Append", d.Append([]byte{1}), api.OK)
			met(t, "Sync", d.Sync(), api.OK)
			met(t, "Cut", d.Cut(d.Len()), api.OK)
		}
		d.Sparks(0)
		met(t, "Sync", d.Sync(), api.ErrOff)
		d.Sparks(n)
		met(t, "Append", d.Append([]byte{1}), api.ErrOff)
		met(t, "Sync", d.Sync(), api.ErrOff)
		met(t, "Cut", d.Cut(0), api.ErrOff)
		if !d.Off() || d.Len() != 1000 {
			t.Fatal(d.Off(), d.Len())
		}
		d.Crash(0)
		d.Sparks(3)
		d.Sparks(1)
		met(t, "Sync", d.Sync(), api.OK)
		met(t, "Sync", d.Sync(), api.ErrOff)
	}
}

// P9.4: a crash leaves what is safe, and the first of the other bytes; it brings power back, as much as is wanted.
func TestCrash(t *testing.T) {
	for safe := range 6 {
		for _, keep := range []int{-3, -1, 0, 1, 2, 3, 4, 5, 6, math.MinInt, math.MaxInt, math.MaxInt - 1} {
			for _, sparks := range []int{-1, 0, 3} {
				d := fresh(t, 8)
				met(t, "Append", d.Append([]byte("abcde")[:safe]), api.OK)
				met(t, "Sync", d.Sync(), api.OK)
				met(t, "Append", d.Append([]byte("abcde")[safe:]), api.OK)
				d.Sparks(sparks)
				if sparks == 0 {
					met(t, "Sync", d.Sync(), api.ErrOff)
				}
				d.Crash(keep)
				n := safe
				for range 5 - safe {
					if n-safe < keep {
						n++
					}
				}
				stands(t, d, told{"abcde"[:n], n, n, 8, false})
				for range 100 {
					met(t, "Sync", d.Sync(), api.OK)
				}
			}
		}
	}
}

// P9.5: what is safe stays after any crash, and what stays is a prefix of what was written.
func TestWhatStays(t *testing.T) {
	r := dice(3)
	for range 3000 {
		d, all := fresh(t, 64), []byte(nil)
		for range 12 {
			d.Sparks(r.IntN(24) - 2)
			for range r.IntN(4) {
				b := sample(r, r.IntN(5))
				if e := d.Append(b); e != api.ErrFull {
					all = append(all, b...)
				}
				if r.IntN(2) == 0 {
					d.Sync()
				}
			}
			safe := d.Safe()
			d.Crash(r.IntN(6) - 1)
			if d.Len() < safe || !bytes.HasPrefix(all, d.Bytes()) || d.Safe() != d.Len() {
				t.Fatalf("%v stay of %v, %d were safe", d.Bytes(), all, safe)
			}
			all = d.Bytes()
		}
	}
}

// R5: nil, and what was not returned by New.
func TestNoDisk(t *testing.T) {
	for _, d := range []*disk.Disk{nil, {}, new(disk.Disk)} {
		for range 2 {
			met(t, "Append", d.Append([]byte{1}), api.ErrNil)
			met(t, "Append", d.Append(nil), api.ErrNil)
			met(t, "Sync", d.Sync(), api.ErrNil)
			met(t, "Cut", d.Cut(0), api.ErrNil)
			met(t, "Cut", d.Cut(-1), api.ErrNil)
			if d.Bytes() != nil || toldOf(d) != (told{}) {
				t.Error(toldOf(d))
			}
			d.Sparks(0)
			d.Sparks(math.MinInt)
			d.Crash(5)
			d.Crash(math.MinInt)
		}
	}
}

// R3: a disk neither changes what it is given nor keeps it.
func TestArgumentsStay(t *testing.T) {
	d, b := fresh(t, 100), []byte("abcdefgh")
	for n := range len(b) + 1 {
		met(t, "Append", d.Append(b[:n]), api.OK)
		met(t, "Append", d.Append([]byte("xyz")), api.OK)
		met(t, "Cut", d.Cut(n), api.OK)
		if string(b) != "abcdefgh" {
			t.Fatal(string(b))
		}
		met(t, "Cut", d.Cut(0), api.OK)
	}
	met(t, "Append", d.Append(b), api.OK)
	clear(b)
	stands(t, d, told{"abcdefgh", 8, 0, 100, false})
}

// P9.1, R3: the bytes that are returned have memory of their own, their spare capacity too.
func TestResultsAreNew(t *testing.T) {
	d := fresh(t, 100)
	met(t, "Append", d.Append([]byte("abcdefgh")), api.OK)
	met(t, "Cut", d.Cut(4), api.OK)
	one, two := d.Bytes(), d.Bytes()
	clear(one)
	one = append(one, "zzz"...)
	met(t, "Append", d.Append([]byte("xy")), api.OK)
	if string(two) != "abcd" || string(one) != "\x00\x00\x00\x00zzz" {
		t.Error(one, two)
	}
	stands(t, d, told{"abcdxy", 6, 0, 100, false})
}

// R4: disks know nothing of each other, whoever uses them.
func TestCallsAreAlike(t *testing.T) {
	ask := func() string {
		r, text := dice(4), ""
		d, e := disk.New(12)
		if e != api.OK {
			return text
		}
		p := paperOf(12)
		for range 500 {
			got, _, _ := act(r, d, p)
			text += fmt.Sprintln(got, toldOf(d))
		}
		return text
	}
	want := ask()
	done := make(chan string)
	for range 8 {
		go func() { done <- ask() }()
	}
	for range 8 {
		if got := <-done; got != want {
			t.Errorf("%s, want %s", got, want)
		}
	}
}
