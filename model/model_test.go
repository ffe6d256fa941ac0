package model_test

import (
	"bytes"
	"math"
	"math/rand/v2"
	"slices"
	"testing"

	"saucier/api"
	"saucier/ask"
	"saucier/model"
	"saucier/reply"
)

// dice: a source of samples, always the same one.
func dice(n uint64) *rand.Rand { return rand.New(rand.NewPCG(7, n)) }

// all: an area that is read and written.
func all(at, many int) api.Area { return api.Area{At: at, Many: many, Read: true, Write: true} }

// whole: an area that is read, and written as a whole.
func whole(at, many int) api.Area {
	return api.Area{At: at, Many: many, Read: true, Write: true, Whole: true}
}

// full: a server with all addresses of all tables.
func full() (api.Space, api.Mem) {
	seen := api.Area{Many: 65536, Read: true}
	s := api.Space{Coils: []api.Area{all(0, 65536)}, Inputs: []api.Area{seen}, Holding: []api.Area{all(0, 65536)}, Words: []api.Area{seen}}
	r := dice(0)
	return s, api.Mem{Coils: bitsOf(r, 65536), Inputs: bitsOf(r, 65536), Holding: wordsOf(r, 65536), Words: wordsOf(r, 65536)}
}

// doMeets: Check, Do and Serve say of these arguments what the chapter does.
func doMeets(t *testing.T, s api.Space, m api.Mem, a api.Ask) api.Reply {
	t.Helper()
	if got, want := model.Check(s, a), wrongWith(s, a); got != want {
		t.Fatalf("Check(%v, %v) = %d, want %d", s, a, got, want)
	}
	want, r := done(s, m, a)
	got, q := model.Do(s, m, a)
	if !same(got, want) || !reply.Same(q, r) {
		t.Fatalf("Do(%v, %v, %v) = %v, %v, want %v, %v", s, m, a, got, q, want, r)
	}
	if pdu, e := ask.Bytes(a); e == api.OK {
		b, _ := reply.Bytes(r)
		got, c := model.Serve(s, m, pdu)
		if !same(got, want) || !bytes.Equal(c, b) || len(b) == 0 || !reply.Fits(a, q) {
			t.Fatalf("Serve(%v, %v, %v) = %v, %v, want %v, %v", s, m, pdu, got, c, want, b)
		}
	}
	return q
}

// P7.1 to P7.3: the chapter's examples.
func TestExamples(t *testing.T) {
	s := api.Space{Coils: []api.Area{all(0, 10)}, Holding: []api.Area{{Many: 4, Read: true}, {At: 4, Many: 4, Write: true, Whole: true}}}
	m := api.Mem{Coils: []bool{true, false, true, true, false, false, false, false, false, true}, Holding: make([]uint16, 8)}
	for _, x := range []struct {
		pdu, want []byte
	}{
		{[]byte{16, 0, 4, 0, 4, 8, 0, 1, 0, 2, 0, 3, 1, 4}, []byte{16, 0, 4, 0, 4}},
		{[]byte{16, 0, 4, 0, 2, 4, 0, 1, 0, 2}, []byte{144, 2}},
		{[]byte{3, 0, 2, 0, 4}, []byte{131, 2}},
		{[]byte{1, 0, 0, 0, 10}, []byte{1, 2, 13, 2}},
	} {
		n, got := model.Serve(s, m, x.pdu)
		if !bytes.Equal(got, x.want) {
			t.Errorf("Serve(%v) = %v, want %v", x.pdu, got, x.want)
		}
		want := copied(m)
		if x.want[0] == 16 {
			want.Holding = []uint16{0, 0, 0, 0, 1, 2, 3, 260}
		}
		if !model.Same(n, want) {
			t.Errorf("after %v: %v", x.pdu, n)
		}
	}
}

// sides: a space and a memory with these areas and so many addresses in one of the tables, and nothing in the others; and whether that table may be written.
func sides(l []api.Area, n int) (spaces [4]api.Space, memories [4]api.Mem, mayWrite [4]bool) {
	spaces = [4]api.Space{{Coils: l}, {Inputs: l}, {Holding: l}, {Words: l}}
	memories = [4]api.Mem{{Coils: make([]bool, n)}, {Inputs: make([]bool, n)}, {Holding: make([]uint16, n)}, {Words: make([]uint16, n)}}
	return spaces, memories, [4]bool{true, false, true, false}
}

// P7.1: known areas and memories, in each table.
func TestRightOfKnownAreas(t *testing.T) {
	see := func(at, many int) api.Area { return api.Area{At: at, Many: many, Read: true} }
	for i, x := range []struct {
		l    []api.Area
		n    int
		want bool
	}{
		{nil, 0, true}, {nil, 5, true}, {nil, 65536, true}, {nil, 65537, false}, {nil, 70000, false},
		{[]api.Area{see(0, 1)}, 1, true}, {[]api.Area{see(0, 1)}, 0, false}, {[]api.Area{{Many: 1}}, 1, true}, {[]api.Area{{Many: 1, Whole: true}}, 1, true},
		{[]api.Area{see(0, 5)}, 5, true}, {[]api.Area{see(0, 6)}, 5, false}, {[]api.Area{see(4, 1)}, 5, true}, {[]api.Area{see(4, 2)}, 5, false}, {[]api.Area{see(5, 1)}, 5, false}, {[]api.Area{see(6, 1)}, 5, false},
		{[]api.Area{see(-1, 1)}, 5, false}, {[]api.Area{see(-1, 3)}, 5, false}, {[]api.Area{see(0, 0)}, 5, false}, {[]api.Area{see(2, 0)}, 5, false}, {[]api.Area{see(5, 0)}, 5, false}, {[]api.Area{see(2, -1)}, 5, false},
		{[]api.Area{see(0, 2), see(2, 3)}, 5, true}, {[]api.Area{see(0, 2), see(3, 2)}, 5, true}, {[]api.Area{see(0, 2), see(3, 3)}, 5, false},
		{[]api.Area{see(0, 2), see(1, 3)}, 5, false}, {[]api.Area{see(2, 3), see(0, 2)}, 5, false}, {[]api.Area{see(1, 2), see(1, 2)}, 5, false}, {[]api.Area{see(1, 3), see(2, 1)}, 5, false},
		{[]api.Area{see(0, 1), see(1, 1), see(1, 1)}, 5, false}, {[]api.Area{see(0, 1), see(2, 1), see(4, 1)}, 5, true}, {[]api.Area{see(0, 1), see(4, 1), see(2, 1)}, 5, false}, {[]api.Area{see(0, 9), see(9, 1)}, 5, false},
		{[]api.Area{see(0, 65536)}, 65536, true}, {[]api.Area{see(0, 65536)}, 65537, false}, {[]api.Area{see(0, 65537)}, 65537, false}, {[]api.Area{see(65535, 1)}, 65536, true}, {[]api.Area{see(65535, 2)}, 65536, false},
		{[]api.Area{see(1, math.MaxInt)}, 5, false}, {[]api.Area{see(math.MaxInt, 1)}, 5, false}, {[]api.Area{see(math.MaxInt, math.MaxInt)}, 5, false}, {[]api.Area{see(0, math.MaxInt)}, 5, false},
		{[]api.Area{see(math.MinInt, 1)}, 5, false}, {[]api.Area{see(math.MinInt, math.MaxInt)}, 5, false}, {[]api.Area{see(3, math.MinInt)}, 5, false}, {[]api.Area{see(2, math.MaxInt), see(0, 1)}, 5, false},
	} {
		spaces, memories, _ := sides(x.l, x.n)
		for k := range spaces {
			if got := model.Right(spaces[k], memories[k]); got != x.want {
				t.Errorf("%d: Right with %v in table %d of %d = %v", i, x.l, k, x.n, got)
			}
		}
	}
}

// P7.1: coils and holding registers may be writable; inputs and input registers not, in none of their areas.
func TestRightOfWritableAreas(t *testing.T) {
	for i := range 3 {
		l := []api.Area{{At: 0, Many: 2, Read: true}, {At: 2, Many: 2, Read: true}, {At: 5, Many: 1, Whole: true}}
		l[i].Write = true
		spaces, memories, mayWrite := sides(l, 6)
		for k := range spaces {
			if got := model.Right(spaces[k], memories[k]); got != mayWrite[k] {
				t.Errorf("Right with %v in table %d = %v", l, k, got)
			}
		}
	}
}

// P7.1: areas of any kind, those of one table with the memory of it, and not that of another.
func TestRight(t *testing.T) {
	r := dice(1)
	count := [2]int{}
	for range 60000 {
		m := memory(r, 20)
		s := rightSpace(r, m)
		if !model.Right(s, m) || !right(s, m) {
			t.Fatalf("Right(%v, %v) is false", s, m)
		}
		other := anySpace(r)
		for _, part := range []func(){
			func() { s.Coils = other.Coils }, func() { s.Inputs = other.Inputs },
			func() { s.Holding = other.Holding }, func() { s.Words = other.Words },
		} {
			if r.IntN(2) == 0 {
				part()
			}
		}
		got := model.Right(s, m)
		if got != right(s, m) {
			t.Fatalf("Right(%v, %v) = %v", s, m, got)
		}
		if got {
			count[1]++
		} else {
			count[0]++
		}
	}
	if count[0] < 1000 || count[1] < 1000 {
		t.Error("samples of one kind alone", count)
	}
}

// P7.1: Same looks at each element of each table, and at how many there are.
func TestSame(t *testing.T) {
	r := dice(2)
	m := api.Mem{Coils: bitsOf(r, 12), Inputs: bitsOf(r, 12), Holding: wordsOf(r, 12), Words: wordsOf(r, 12)}
	check := func(n api.Mem, want bool) {
		t.Helper()
		if model.Same(m, n) != want || model.Same(n, m) != want || !model.Same(n, n) {
			t.Fatalf("Same(%v, %v) is not %v", m, n, want)
		}
	}
	check(m, true)
	check(copied(m), true)
	check(api.Mem{}, false)
	for i := range 12 {
		for _, change := range []func(n *api.Mem){
			func(n *api.Mem) { n.Coils[i] = !n.Coils[i] }, func(n *api.Mem) { n.Inputs[i] = !n.Inputs[i] },
			func(n *api.Mem) { n.Holding[i] ^= 256 }, func(n *api.Mem) { n.Words[i]++ },
			func(n *api.Mem) { n.Coils = n.Coils[:i] }, func(n *api.Mem) { n.Inputs = n.Inputs[:i] },
			func(n *api.Mem) { n.Holding = n.Holding[:i] }, func(n *api.Mem) { n.Words = n.Words[:i] },
			func(n *api.Mem) { n.Coils = append(n.Coils, false) }, func(n *api.Mem) { n.Inputs = append(n.Inputs, false) },
			func(n *api.Mem) { n.Holding = append(n.Holding, 0) }, func(n *api.Mem) { n.Words = append(n.Words, 0) },
		} {
			n := copied(m)
			change(&n)
			check(n, false)
		}
	}
	empty := api.Mem{Coils: []bool{}, Inputs: []bool{}, Holding: []uint16{}, Words: []uint16{}}
	if !model.Same(api.Mem{}, empty) || !model.Same(empty, api.Mem{}) {
		t.Error("no elements and nil are not the same")
	}
	if model.Same(api.Mem{Holding: []uint16{1}}, api.Mem{Words: []uint16{1}}) || model.Same(api.Mem{Coils: []bool{true}}, api.Mem{Inputs: []bool{true}}) {
		t.Error("one table is taken for another")
	}
}

// P7.1: each function reads its table, and writes its table, and no other.
func TestTablesOfFunctions(t *testing.T) {
	asks := map[uint8]api.Ask{
		1: {Func: 1, Many: 3}, 2: {Func: 2, Many: 3}, 3: {Func: 3, Many: 3}, 4: {Func: 4, Many: 3},
		5: {Func: 5, Bits: []bool{true}}, 6: {Func: 6, Words: []uint16{9}},
		15: {Func: 15, Many: 2, Bits: []bool{true, true}}, 16: {Func: 16, Many: 2, Words: []uint16{9, 8}}, 23: {Func: 23, Many: 3, Words: []uint16{9, 8}},
	}
	for _, access := range []api.Area{{Many: 3, Read: true}, {Many: 3, Write: true}, {Many: 3, Read: true, Write: true}, {Many: 3}} {
		spaces, _, _ := sides([]api.Area{access}, 3)
		for f, a := range asks {
			table := map[uint8]int{1: 0, 5: 0, 15: 0, 2: 1, 4: 3, 3: 2, 6: 2, 16: 2, 23: 2}[f]
			reads, writes := f < 5 || f == 23, f > 4
			for k := range spaces {
				var want uint8
				if k != table || reads && !access.Read || writes && !access.Write {
					want = api.ExAt
				}
				if got := model.Check(spaces[k], a); got != want {
					t.Errorf("function %d with %v in table %d: %d, want %d", f, access, k, got, want)
				}
			}
		}
	}
}

// writes: the requests that write n from a place on, to coils and to holding registers.
func writes(at uint16, n int) []api.Ask {
	l := []api.Ask{
		{Func: 15, At: at, Many: uint16(n), Bits: make([]bool, n)},
		{Func: 16, At: at, Many: uint16(n), Words: make([]uint16, n)},
		{Func: 23, At: 0, Many: 1, To: at, Words: make([]uint16, n)},
	}
	if n == 1 {
		l = append(l, api.Ask{Func: 5, At: at, Bits: []bool{true}}, api.Ask{Func: 6, At: at, Words: []uint16{1}})
	}
	return l
}

// P7.1: areas that are written as a whole are written exactly, and alone; others in part, and together.
func TestWhole(t *testing.T) {
	l := []api.Area{{At: 0, Many: 2, Read: true}, all(2, 2), whole(4, 3), whole(7, 1), whole(8, 2), all(10, 2), all(12, 2), {At: 14, Many: 2, Whole: true, Read: true}}
	s := api.Space{Coils: l, Holding: l}
	for at := range 18 {
		for n := 1; n <= 18-at; n++ {
			exact := slices.ContainsFunc(l, func(a api.Area) bool { return a.Whole && a.Write && a.At == at && a.Many == n })
			loose := at >= 2 && at+n <= 4 || at >= 10 && at+n <= 14
			var want uint8 = api.ExAt
			if exact || loose {
				want = 0
			}
			for _, a := range writes(uint16(at), n) {
				if got := model.Check(s, a); got != want {
					t.Errorf("function %d writes %d from %d on: %d, want %d", a.Func, n, at, got, want)
				}
			}
		}
	}
}

// P7.1: reading goes through areas that are written as a whole, in part too.
func TestWholeIsReadInPart(t *testing.T) {
	l := []api.Area{whole(0, 3), whole(3, 3), {At: 6, Many: 1, Write: true}, {At: 7, Many: 1, Read: true, Whole: true}}
	s := api.Space{Coils: l, Inputs: l, Holding: l, Words: l}
	for at := range 9 {
		for n := 1; n <= 9-at; n++ {
			var want uint8
			if at+n > 8 || at <= 6 && at+n > 6 {
				want = api.ExAt
			}
			for f := uint8(1); f <= 4; f++ {
				if got := model.Check(s, api.Ask{Func: f, At: uint16(at), Many: uint16(n)}); got != want {
					t.Errorf("function %d reads %d from %d on: %d, want %d", f, n, at, got, want)
				}
			}
		}
	}
}

// P7.1: the first area that has an address is its area, also where others have it.
func TestFirstAreaCounts(t *testing.T) {
	none := api.Area{At: 2, Many: 2}
	for i, x := range []struct {
		l    []api.Area
		at   uint16
		n    int
		want uint8
	}{
		{[]api.Area{all(0, 6), none}, 0, 6, 0}, {[]api.Area{none, all(0, 6)}, 0, 6, 2}, {[]api.Area{none, all(0, 6)}, 0, 2, 0}, {[]api.Area{none, all(0, 6)}, 4, 2, 0}, {[]api.Area{none, all(0, 6)}, 3, 1, 2},
		{[]api.Area{all(0, 4), whole(2, 4)}, 2, 4, 0}, {[]api.Area{all(0, 4), whole(2, 4)}, 3, 3, 2}, {[]api.Area{all(0, 4), whole(2, 4)}, 0, 4, 0},
		{[]api.Area{whole(0, 4), whole(0, 6)}, 0, 6, 2}, {[]api.Area{whole(0, 6), whole(0, 4)}, 0, 6, 0}, {[]api.Area{whole(0, 6), whole(0, 4)}, 0, 4, 2},
		{[]api.Area{whole(-2, 5)}, 0, 3, 2}, {[]api.Area{all(-2, 5)}, 0, 3, 0}, {[]api.Area{all(-2, 5)}, 0, 4, 2}, {[]api.Area{all(4, 2), all(0, 4)}, 1, 5, 0},
		{[]api.Area{all(2, 0), all(0, 4)}, 0, 4, 0}, {[]api.Area{all(2, -3), all(0, 4)}, 0, 4, 0}, {[]api.Area{all(math.MinInt, math.MaxInt)}, 0, 1, 2}, {[]api.Area{all(-9, math.MaxInt)}, 0, 9, 0},
		{[]api.Area{all(2, math.MaxInt)}, 2, 9, 0}, {[]api.Area{all(2, math.MaxInt)}, 1, 9, 2}, {[]api.Area{all(math.MinInt, -1)}, 0, 1, 2}, {[]api.Area{all(1, math.MinInt)}, 2, 1, 2},
	} {
		for _, a := range writes(x.at, x.n)[:2] {
			if got := model.Check(api.Space{Coils: x.l, Holding: x.l}, a); got != x.want {
				t.Errorf("%d: function %d writes %d from %d on, with %v: %d, want %d", i, a.Func, x.n, x.at, x.l, got, x.want)
			}
		}
	}
}

// P7.1: addresses don't begin anew behind the greatest one, and there is none behind it.
func TestBeyondTheGreatestAddress(t *testing.T) {
	s, m := full()
	for back := 1; back <= 130; back++ {
		at := uint16(65536 - back)
		for _, n := range []int{1, back - 1, back, back + 1, 121} {
			if n < 1 || n > 121 {
				continue
			}
			var want uint8
			if n > back {
				want = api.ExAt
			}
			asks := writes(at, n)
			for f := uint8(1); f <= 4; f++ {
				asks = append(asks, api.Ask{Func: f, At: at, Many: uint16(n)})
			}
			asks = append(asks, api.Ask{Func: 23, At: at, Many: uint16(n), Words: []uint16{1}})
			for _, a := range asks {
				if got := model.Check(s, a); got != want {
					t.Fatalf("function %d, %d from %d on: %d, want %d", a.Func, n, at, got, want)
				}
			}
		}
	}
	for _, a := range []api.Ask{
		{Func: 1, At: 65535, Many: 2}, {Func: 4, At: 65535, Many: 125}, {Func: 2, At: 63537, Many: 2000}, {Func: 15, At: 65535, Many: 2, Bits: []bool{true, true}},
		{Func: 16, At: 65535, Many: 2, Words: []uint16{1, 2}}, {Func: 23, At: 1, Many: 1, To: 65535, Words: []uint16{1, 2}}, {Func: 23, At: 65535, Many: 2, To: 1, Words: []uint16{1}},
	} {
		if n, r := model.Do(s, m, a); !same(n, m) || !reply.Same(r, api.Reply{Func: a.Func, Except: 2}) {
			t.Errorf("function %d, %d from %d on: %v", a.Func, a.Many, a.At, r)
		}
	}
}

// P7.1, P7.2: the greatest and the least requests, at both ends of full tables.
func TestFullTables(t *testing.T) {
	s, m := full()
	r := dice(3)
	var l []api.Ask
	for _, at := range []int{0, 1, 7, 8, 32768, 65535} {
		for _, n := range []int{1, 2, 7, 8, 9, 15, 16, 17, 121, 122, 123, 124, 125, 126, 1967, 1968, 1969, 1999, 2000, 2001} {
			from := uint16(min(at, 65536-n))
			for f := uint8(1); f <= 4; f++ {
				l = append(l, api.Ask{Func: f, At: from, Many: uint16(n)})
			}
			l = append(l, api.Ask{Func: 15, At: from, Many: uint16(n), Bits: bitsOf(r, n)}, api.Ask{Func: 16, At: from, Many: uint16(n), Words: wordsOf(r, n)})
			l = append(l, api.Ask{Func: 23, At: from, Many: uint16(n), To: uint16(at), Words: wordsOf(r, 1)}, api.Ask{Func: 23, At: uint16(at), Many: 1, To: from, Words: wordsOf(r, n)})
		}
		l = append(l, api.Ask{Func: 5, At: uint16(at), Bits: []bool{!m.Coils[at]}}, api.Ask{Func: 5, At: uint16(at), Bits: []bool{m.Coils[at]}}, api.Ask{Func: 6, At: uint16(at), Words: wordsOf(r, 1)})
	}
	for _, a := range l {
		want, q := done(s, m, a)
		if got, p := model.Do(s, m, a); !same(got, want) || !reply.Same(p, q) || ask.Right(a) != (p.Except == 0) {
			t.Fatalf("function %d, %d from %d on: %v, want %v", a.Func, a.Many, a.At, p, q)
		}
	}
}

// P7.1 to P7.3: right requests to right servers, one after another.
func TestDo(t *testing.T) {
	r := dice(4)
	var rejected, met [24]int
	for range 4000 {
		m := memory(r, 40)
		s := rightSpace(r, m)
		for range 20 {
			a := request(r, s, pick(r, functions))
			if doMeets(t, s, m, a).Except == 0 {
				met[a.Func]++
			} else {
				rejected[a.Func]++
			}
			m, _ = done(s, m, a)
		}
	}
	for _, f := range functions {
		if met[f] < 500 || rejected[f] < 500 {
			t.Errorf("samples of one kind alone: function %d: %d, %d", f, met[f], rejected[f])
		}
	}
}

// P7.1, P7.2: right requests to spaces and memories that are not right: first what is wrong with the request, then the device.
func TestDoWithWrongSpaces(t *testing.T) {
	r := dice(5)
	count := map[uint8]int{}
	for range 60000 {
		s, m := anySpace(r), memory(r, 20)
		if r.IntN(2) == 0 {
			s = rightSpace(r, m)
			s.Words = areasAnyhow(r)
		}
		a := request(r, s, pick(r, functions))
		count[doMeets(t, s, m, a).Except]++
	}
	if count[0] < 100 || count[2] < 1000 || count[4] < 1000 {
		t.Error("samples of few kinds alone", count)
	}
}

// P7.2: something wrong in any table, also one that the request doesn't touch, is the device's fault.
func TestDoNeedsAllTables(t *testing.T) {
	s, m := full()
	for i, spoil := range []func(s *api.Space, m *api.Mem){
		func(s *api.Space, m *api.Mem) { m.Coils = m.Coils[:65535] }, func(s *api.Space, m *api.Mem) { m.Inputs = m.Inputs[:65535] },
		func(s *api.Space, m *api.Mem) { m.Holding = m.Holding[:65535] }, func(s *api.Space, m *api.Mem) { m.Words = m.Words[:65535] },
		func(s *api.Space, m *api.Mem) { m.Coils = append(slices.Clone(m.Coils), false) }, func(s *api.Space, m *api.Mem) { m.Inputs = append(slices.Clone(m.Inputs), false) },
		func(s *api.Space, m *api.Mem) { m.Holding = append(slices.Clone(m.Holding), 0) }, func(s *api.Space, m *api.Mem) { m.Words = append(slices.Clone(m.Words), 0) },
		func(s *api.Space, m *api.Mem) { s.Inputs = []api.Area{all(0, 65536)} }, func(s *api.Space, m *api.Mem) { s.Words = []api.Area{all(0, 65536)} },
		func(s *api.Space, m *api.Mem) { s.Coils = append(slices.Clone(s.Coils), all(65536, 1)) },
	} {
		s, m := s, m
		spoil(&s, &m)
		for _, a := range []api.Ask{
			{Func: 1, At: 5, Many: 3}, {Func: 2, At: 5, Many: 3}, {Func: 3, At: 5, Many: 3}, {Func: 4, At: 5, Many: 3}, {Func: 5, At: 5, Bits: []bool{!m.Coils[5]}},
			{Func: 6, At: 5, Words: []uint16{^m.Holding[5]}}, {Func: 15, At: 5, Many: 1, Bits: []bool{!m.Coils[5]}}, {Func: 16, At: 5, Many: 1, Words: []uint16{^m.Holding[5]}}, {Func: 23, At: 5, Many: 1, Words: []uint16{1}},
		} {
			n, r := model.Do(s, m, a)
			if !same(n, m) || !reply.Same(r, api.Reply{Func: a.Func, Except: 4}) {
				t.Errorf("%d: function %d: %v", i, a.Func, r)
			}
			pdu, _ := ask.Bytes(a)
			if n, b := model.Serve(s, m, pdu); !same(n, m) || !bytes.Equal(b, []byte{a.Func + 128, 4}) {
				t.Errorf("%d: function %d: %v", i, a.Func, b)
			}
		}
		if n, r := model.Do(s, m, api.Ask{Func: 3}); !same(n, m) || !reply.Same(r, api.Reply{Func: 3, Except: 3}) {
			t.Errorf("%d: a request that is not right: %v", i, r)
		}
	}
}

// P7.1, P7.2: requests that are not right, whatever the server, and whatever their function.
func TestRequestsThatAreNotRight(t *testing.T) {
	r := dice(6)
	for i := range 30000 {
		m := memory(r, 20)
		s := rightSpace(r, m)
		if i%3 == 0 {
			s = anySpace(r)
		}
		if q := doMeets(t, s, m, wrongRequest(r, s)); q.Except != api.ExValue {
			t.Fatal(q)
		}
	}
	s, m := full()
	for f := range 256 {
		a := api.Ask{Func: uint8(f)}
		want := api.Reply{Func: uint8(f % 128), Except: 3}
		if n, q := model.Do(s, m, a); model.Check(s, a) != 3 || !same(n, m) || !reply.Same(q, want) {
			t.Errorf("function %d: %v, want %v", f, q, want)
		}
	}
}

// P7.3: bytes that are no request get the exception that ask.Look names, whatever the server.
func TestServeOfNoRequest(t *testing.T) {
	r := dice(7)
	m := memory(r, 20)
	for _, s := range []api.Space{rightSpace(r, m), {Coils: []api.Area{all(-1, 0)}}} {
		serveMeets := func(pdu []byte, want ...byte) {
			t.Helper()
			if n, got := model.Serve(s, m, pdu); !same(n, m) || !bytes.Equal(got, want) {
				t.Fatalf("Serve(%v) = %v, want %v", pdu, got, want)
			}
		}
		serveMeets(nil, 128, 1)
		serveMeets([]byte{}, 128, 1)
		for f := range 256 {
			for _, n := range []int{1, 2, 3, 4, 254, 300} {
				pdu := make([]byte, n)
				pdu[0] = byte(f)
				if slices.Contains(functions, byte(f)) {
					serveMeets(pdu, byte(f+128), 3)
				} else {
					serveMeets(pdu, byte(f%128+128), 1)
				}
			}
		}
		for _, pdu := range [][]byte{
			{1, 0, 0, 0, 0}, {2, 0, 0, 7, 209}, {3, 0, 0, 0, 126}, {4, 0, 0, 0, 1, 0}, {5, 0, 0, 0, 1}, {5, 0, 0, 255, 1}, {6, 0, 0, 1},
			{15, 0, 0, 0, 1, 1, 2}, {15, 0, 0, 0, 1, 2, 1}, {16, 0, 0, 0, 1, 2, 0}, {16, 0, 0, 0, 1, 1, 0, 1}, {23, 0, 0, 0, 1, 0, 0, 0, 1, 2, 0}, {23, 0, 0, 0, 0, 0, 0, 0, 1, 2, 0, 1},
		} {
			serveMeets(pdu, pdu[0]+128, 3)
		}
	}
}

// P7.3: any bytes get a reply: an exception, or what the request is answered with.
func TestServeOfAnyBytes(t *testing.T) {
	r := dice(8)
	for range 60000 {
		m := memory(r, 20)
		s := rightSpace(r, m)
		pdu, _ := ask.Bytes(request(r, s, pick(r, functions)))
		if i := r.IntN(len(pdu)); r.IntN(2) == 0 {
			pdu[i] ^= 1 << r.IntN(8)
		} else if r.IntN(3) == 0 {
			pdu = pdu[:i]
		}
		want, q := m, api.Reply{}
		if a, wrong := ask.Look(pdu); wrong != 0 {
			q = api.Reply{Func: a.Func % 128, Except: wrong}
		} else {
			want, q = done(s, m, a)
		}
		b, e := reply.Bytes(q)
		if got, c := model.Serve(s, m, pdu); e != api.OK || !same(got, want) || !bytes.Equal(c, b) {
			t.Fatalf("Serve(%v, %v, %v) = %v, %v, want %v, %v", s, m, pdu, got, c, want, b)
		}
	}
}

// P7.2: bits are read up to a multiple of eight, and what is beyond those that were asked for is off, even if the memory has it on.
func TestAdditionalBitsAreOff(t *testing.T) {
	on := slices.Repeat([]bool{true}, 2040)
	s := api.Space{Coils: []api.Area{{Many: 2040, Read: true}}, Inputs: []api.Area{{Many: 2040, Read: true}}}
	for n := 1; n <= 2000; n++ {
		for f := uint8(1); f <= 2; f++ {
			_, r := model.Do(s, api.Mem{Coils: on, Inputs: on}, api.Ask{Func: f, At: 3, Many: uint16(n)})
			if len(r.Bits) < n || len(r.Bits) >= n+8 || len(r.Bits)%8 != 0 || slices.Contains(r.Bits[:n], false) || slices.Contains(r.Bits[n:], true) {
				t.Fatalf("function %d reads %d bits as %v", f, n, r)
			}
		}
	}
}

// P7.4: what is written is read as the same; nothing else changes; reading, and what is rejected, changes nothing.
func TestWrittenIsRead(t *testing.T) {
	r := dice(9)
	s, before := full()
	for range 60 {
		at, n := r.IntN(60000), 1+r.IntN(121)
		bits, words := bitsOf(r, n), wordsOf(r, n)
		m, _ := model.Do(s, before, api.Ask{Func: 15, At: uint16(at), Many: uint16(n), Bits: bits})
		m, _ = model.Do(s, m, api.Ask{Func: 16, At: uint16(at), Many: uint16(n), Words: words})
		want := copied(before)
		copy(want.Coils[at:], bits)
		copy(want.Holding[at:], words)
		if !model.Same(m, want) {
			t.Fatalf("%d from %d on: something else is changed", n, at)
		}
		after, q := model.Do(s, m, api.Ask{Func: 1, At: uint16(at), Many: uint16(n)})
		again, p := model.Do(s, m, api.Ask{Func: 3, At: uint16(at), Many: uint16(n)})
		if !slices.Equal(q.Bits[:n], bits) || !slices.Equal(p.Words, words) || !model.Same(after, want) || !model.Same(again, want) {
			t.Fatalf("%d from %d on: %v, %v, want %v, %v", n, at, q, p, bits, words)
		}
		for _, a := range []api.Ask{{Func: 2, Many: 20}, {Func: 4, Many: 20}, {Func: 16, At: 65535, Many: 2, Words: words[:min(2, n)]}, {Func: 15, At: 65535, Many: 3, Bits: []bool{true, true, true}}, {Func: 9}} {
			if after, _ := model.Do(s, m, a); !model.Same(after, want) {
				t.Fatalf("function %d: something is changed", a.Func)
			}
		}
	}
}

// P7.4: function 23 is function 16, and function 3 after it; it is rejected, and writes nothing, if one of them is.
func TestExchange(t *testing.T) {
	r := dice(10)
	count := [2]int{}
	for range 40000 {
		m := api.Mem{Holding: wordsOf(r, 20)}
		s := api.Space{Holding: areasWithin(r, 20, true)}
		a := request(r, s, 23)
		between, first := model.Do(s, m, api.Ask{Func: 16, At: a.To, Many: uint16(len(a.Words)), Words: a.Words})
		want, second := model.Do(s, between, api.Ask{Func: 3, At: a.At, Many: a.Many})
		got, q := model.Do(s, m, a)
		if first.Except == 0 && second.Except == 0 {
			count[1]++
			if !model.Same(got, want) || q.Except != 0 || q.Func != 23 || !slices.Equal(q.Words, second.Words) {
				t.Fatalf("Do(%v, %v, %v) = %v, %v", s, m, a, got, q)
			}
			continue
		}
		count[0]++
		if !model.Same(got, m) || !reply.Same(q, api.Reply{Func: 23, Except: 2}) {
			t.Fatalf("Do(%v, %v, %v) = %v, %v", s, m, a, got, q)
		}
	}
	if count[0] < 1000 || count[1] < 1000 {
		t.Error("samples of one kind alone", count)
	}
}

// R1: extremes as areas, with every function, and memories that are too short or too long.
func TestExtremes(t *testing.T) {
	r := dice(11)
	for _, at := range extremes {
		for _, many := range extremes {
			for _, f := range functions {
				for _, from := range []uint16{0, 1, 5, 65535} {
					a := request(r, api.Space{}, f)
					a.At = from
					l := []api.Area{{At: at, Many: many, Read: true, Write: f > 4, Whole: r.IntN(2) == 0}}
					s := api.Space{Coils: l, Inputs: l, Holding: l, Words: l}
					doMeets(t, s, memory(r, 9), a)
					if got := model.Right(s, api.Mem{}); got {
						t.Fatalf("Right of %v without memory", s)
					}
				}
			}
		}
	}
}

// R3: no argument changes, its spare capacity neither.
func TestArgumentsStay(t *testing.T) {
	r := dice(12)
	for range 20000 {
		m := memory(r, 20)
		s := rightSpace(r, m)
		if r.IntN(4) == 0 {
			s = anySpace(r)
		}
		// A memory with more behind each table, which a write would reach.
		wide := api.Mem{Coils: append(m.Coils, true, false), Inputs: append(m.Inputs, true), Holding: append(m.Holding, 1, 2, 3), Words: append(m.Words, 4)}
		m = api.Mem{Coils: wide.Coils[:len(m.Coils)], Inputs: wide.Inputs[:len(m.Inputs)], Holding: wide.Holding[:len(m.Holding)], Words: wide.Words[:len(m.Words)]}
		a := request(r, s, pick(r, functions))
		pdu, _ := ask.Bytes(a)
		before, space, words, bits, sent := copied(wide), copiedSpace(s), slices.Clone(a.Words), slices.Clone(a.Bits), slices.Clone(pdu)
		model.Right(s, m)
		model.Check(s, a)
		model.Do(s, m, a)
		model.Serve(s, m, pdu)
		model.Same(m, wide)
		if !same(wide, before) || !sameSpace(s, space) || !slices.Equal(a.Words, words) || !slices.Equal(a.Bits, bits) || !bytes.Equal(pdu, sent) {
			t.Fatalf("an argument changes with %v", a)
		}
	}
}

// copiedSpace: a space's areas, in other lists.
func copiedSpace(s api.Space) api.Space {
	return api.Space{Coils: slices.Clone(s.Coils), Inputs: slices.Clone(s.Inputs), Holding: slices.Clone(s.Holding), Words: slices.Clone(s.Words)}
}

// sameSpace: are all areas the same?
func sameSpace(a, b api.Space) bool {
	return slices.Equal(a.Coils, b.Coils) && slices.Equal(a.Inputs, b.Inputs) && slices.Equal(a.Holding, b.Holding) && slices.Equal(a.Words, b.Words)
}

// fill: writes x to all elements of l, spare ones too.
func fill[E any](l []E, x E) {
	l = l[:cap(l)]
	for i := range l {
		l[i] = x
	}
}

// spoil: writes to all that a memory has.
func spoil(m api.Mem, bit bool, word uint16) {
	fill(m.Coils, bit)
	fill(m.Inputs, bit)
	fill(m.Holding, word)
	fill(m.Words, word)
}

// R3: results are new memory, spare capacity and all, whether a request is answered or rejected: they share none with an argument, nor with one another.
func TestResultsAreNew(t *testing.T) {
	r := dice(13)
	for i := range 20000 {
		m := memory(r, 20)
		s := rightSpace(r, m)
		if i%4 == 0 {
			s = anySpace(r)
		}
		a := request(r, s, pick(r, functions))
		if i%9 == 0 {
			a = wrongRequest(r, s)
		}
		pdu, _ := ask.Bytes(a)
		before, words, bits := copied(m), slices.Clone(a.Words), slices.Clone(a.Bits)
		want, q := done(s, m, a)
		want, q.Words, q.Bits = copied(want), slices.Clone(q.Words), slices.Clone(q.Bits)
		for _, bit := range []bool{false, true} {
			got, p := model.Do(s, m, a)
			fill(p.Words, 43690)
			fill(p.Bits, bit)
			if !same(got, want) {
				t.Fatalf("the reply to %v shares memory with the memory", a)
			}
			other, p := model.Do(s, m, a)
			spoil(other, bit, 21845)
			if !same(got, want) || !reply.Same(p, q) || !same(m, before) || !slices.Equal(a.Words, words) || !slices.Equal(a.Bits, bits) {
				t.Fatalf("what Do answers to %v is shared", a)
			}
			got, b := model.Serve(s, m, pdu)
			sent := slices.Clone(b)
			spoil(got, bit, 21845)
			if !same(m, before) || !bytes.Equal(b, sent) {
				t.Fatalf("what Serve answers to %v is shared", pdu)
			}
		}
	}
}

// R4: a call hangs on its arguments alone, whatever was called before, and by whom.
func TestCallsAreAlike(t *testing.T) {
	finished := make(chan bool)
	for range 8 {
		go func() {
			ok, r := true, dice(14)
			for range 500 {
				m := memory(r, 20)
				s := rightSpace(r, m)
				a := request(r, s, pick(r, functions))
				want, q := done(s, m, a)
				got, p := model.Do(s, m, a)
				ok = ok && same(got, want) && reply.Same(p, q) && model.Right(s, m)
			}
			finished <- ok
		}()
	}
	for range 8 {
		if !<-finished {
			t.Error("calls beside one another answer otherwise")
		}
	}
}
