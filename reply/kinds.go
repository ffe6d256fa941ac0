package reply

import (
	"saucier/api"
	"saucier/ask"
)

// kind: what is done with the replies of one row of the chapter's table.
type kind interface {
	right(r api.Reply) bool   // is r a right reply of this kind?
	bytes(r api.Reply) []byte // those of a right reply
	read(b []byte) api.Reply  // the fields of b, which has a byte at least, as far as they are there; counts ahead of lists are passed over
}

type (
	exception   struct{}
	bitsRead    struct{}
	wordsRead   struct{}
	bitWritten  struct{}
	wordWritten struct{}
	manyWritten struct{ most uint16 } // how many can be written at once
)

// kindOf: the kind that r is of, if it is of any.
func kindOf(r api.Reply) (kind, bool) {
	if r.Except != 0 {
		return exception{}, true
	}
	return kindBy(r.Func)
}

// kindBy: the kind of the replies whose bytes begin with first, if there is one.
func kindBy(first byte) (kind, bool) {
	if first >= failed {
		return exception{}, true
	}
	switch first {
	case api.ReadCoils, api.ReadInputs:
		return bitsRead{}, true
	case api.ReadHolding, api.ReadWords, api.Exchange:
		return wordsRead{}, true
	case api.WriteCoil:
		return bitWritten{}, true
	case api.WriteWord:
		return wordWritten{}, true
	case api.WriteCoils:
		return manyWritten{api.MaxWriteBits}, true
	case api.WriteWords:
		return manyWritten{api.MaxWriteWords}, true
	}
	return nil, false
}

func (exception) right(r api.Reply) bool {
	return r.Func < failed && r.Except >= api.ExFunc && r.Except <= api.ExDevice &&
		Same(r, api.Reply{Func: r.Func, Except: r.Except})
}

func (exception) bytes(r api.Reply) []byte { return []byte{r.Func + failed, r.Except} }

func (exception) read(b []byte) api.Reply {
	r := api.Reply{Func: b[0] - failed}
	if len(b) > 1 {
		r.Except = b[1]
	}
	return r
}

func (bitsRead) right(r api.Reply) bool {
	n := len(r.Bits)
	return n >= 8 && n <= api.MaxReadBits && n%8 == 0 && Same(r, api.Reply{Func: r.Func, Bits: r.Bits})
}

func (bitsRead) bytes(r api.Reply) []byte { return counted(r.Func, ask.Pack(r.Bits)) }

func (bitsRead) read(b []byte) api.Reply {
	return api.Reply{Func: b[0], Bits: ask.Unpack(listed(b))}
}

func (wordsRead) right(r api.Reply) bool {
	n := len(r.Words)
	return n >= 1 && n <= api.MaxReadWords && Same(r, api.Reply{Func: r.Func, Words: r.Words})
}

func (wordsRead) bytes(r api.Reply) []byte { return counted(r.Func, put(nil, r.Words...)) }

func (wordsRead) read(b []byte) api.Reply {
	r, list := api.Reply{Func: b[0]}, listed(b)
	for i := range len(list) / 2 {
		r.Words = append(r.Words, number(list, 2*i))
	}
	return r
}

func (bitWritten) right(r api.Reply) bool {
	return len(r.Bits) == 1 && Same(r, api.Reply{Func: r.Func, At: r.At, Bits: r.Bits})
}

func (bitWritten) bytes(r api.Reply) []byte {
	var level uint16
	if r.Bits[0] {
		level = on
	}
	return put([]byte{r.Func}, r.At, level)
}

func (bitWritten) read(b []byte) api.Reply {
	return api.Reply{Func: b[0], At: number(b, 1), Bits: []bool{number(b, 3) == on}}
}

func (wordWritten) right(r api.Reply) bool {
	return len(r.Words) == 1 && Same(r, api.Reply{Func: r.Func, At: r.At, Words: r.Words})
}

func (wordWritten) bytes(r api.Reply) []byte { return put([]byte{r.Func}, r.At, r.Words[0]) }

func (wordWritten) read(b []byte) api.Reply {
	return api.Reply{Func: b[0], At: number(b, 1), Words: []uint16{number(b, 3)}}
}

func (k manyWritten) right(r api.Reply) bool {
	return r.Many >= 1 && r.Many <= k.most && Same(r, api.Reply{Func: r.Func, At: r.At, Many: r.Many})
}

func (manyWritten) bytes(r api.Reply) []byte { return put([]byte{r.Func}, r.At, r.Many) }

func (manyWritten) read(b []byte) api.Reply {
	return api.Reply{Func: b[0], At: number(b, 1), Many: number(b, 3)}
}

// counted: a function, and a list with the number of its bytes ahead.
func counted(function uint8, list []byte) []byte {
	return append([]byte{function, byte(len(list))}, list...)
}

// listed: what stands behind a function and the number of the bytes that follow.
func listed(b []byte) []byte { return b[min(2, len(b)):] }

// put: b and the numbers behind it, two bytes each, the upper one first.
func put(b []byte, numbers ...uint16) []byte {
	for _, n := range numbers {
		b = append(b, byte(n>>8), byte(n))
	}
	return b
}

// number: the number of two bytes that stands in b from i on; 0 if it isn't there whole.
func number(b []byte, i int) uint16 {
	if i+2 > len(b) {
		return 0
	}
	return uint16(b[i])<<8 | uint16(b[i+1])
}
