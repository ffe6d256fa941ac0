package mbap

import (
	"bytes"
	"testing"
)

// Ways: frames are yielded one by one, as long as someone asks for them, and from the first one on each time.
func TestFramesAreYieldedOneByOne(t *testing.T) {
	b := []byte{0, 1, 0, 0, 0, 2, 1, 9, 0, 2, 0, 0, 0, 4, 5, 6, 7, 8, 0, 3, 0, 0, 0, 2, 1, 9, 0, 4, 0}
	want := [][]byte{b[:8], b[8:18], b[18:26]}
	all := frames(b)
	for most := range 5 {
		var got [][]byte
		for f := range all {
			if len(got) == most {
				break
			}
			got = append(got, f)
		}
		if len(got) != min(most, len(want)) {
			t.Fatalf("%d frames, want %d", len(got), min(most, len(want)))
		}
		for i, f := range got {
			if !bytes.Equal(f, want[i]) {
				t.Errorf("frame %d is %v, want %v", i, f, want[i])
			}
		}
	}
}
