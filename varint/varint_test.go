package varint

import (
	"bytes"
	"testing"

	"hostler/api"
)

// sized is a number and its shortest bytes.
type sized struct {
	n uint64
	b []byte
}

// table has the edges that the document names, those of each size, and its examples.
func table() []sized {
	return []sized{
		{0, []byte{0x00}},
		{1, []byte{0x01}},
		{25, []byte{0x19}},
		{37, []byte{0x25}},
		{62, []byte{0x3e}},
		{63, []byte{0x3f}},
		{64, []byte{0x40, 0x40}},
		{255, []byte{0x40, 0xff}},
		{256, []byte{0x41, 0x00}},
		{15293, []byte{0x7b, 0xbd}},
		{16382, []byte{0x7f, 0xfe}},
		{16383, []byte{0x7f, 0xff}},
		{16384, []byte{0x80, 0x00, 0x40, 0x00}},
		{65536, []byte{0x80, 0x01, 0x00, 0x00}},
		{494878333, []byte{0x9d, 0x7f, 0x3e, 0x7d}},
		{1073741823, []byte{0xbf, 0xff, 0xff, 0xff}},
		{1073741824, []byte{0xc0, 0, 0, 0, 0x40, 0, 0, 0}},
		{1 << 32, []byte{0xc0, 0, 0, 1, 0, 0, 0, 0}},
		{151288809941952652, []byte{0xc2, 0x19, 0x7c, 0x5e, 0xff, 0x14, 0xe8, 0x8c}},
		{api.MaxVar - 1, []byte{0xff, 0xff, 0xff, 0xff, 0xff, 0xff, 0xff, 0xfe}},
		{api.MaxVar, []byte{0xff, 0xff, 0xff, 0xff, 0xff, 0xff, 0xff, 0xff}},
	}
}

// tooGreat are numbers above MaxVar.
func tooGreat() []uint64 {
	return []uint64{api.MaxVar + 1, api.MaxVar + 64, 1 << 63, 1<<63 + 5, 1<<64 - 1}
}

// spread answers numbers of all lengths in bits: each power of two with its neighbours, up to MaxVar.
func spread() []uint64 {
	var l []uint64
	for bit := range 62 {
		n := uint64(1) << bit
		l = append(l, n-1, n, n+1, n|n>>1|n>>3|n>>7)
	}
	return append(l, api.MaxVar)
}

// long answers the bytes of n in so many bytes, be they the shortest or not.
func long(n uint64, size int) []byte {
	mark := map[int]byte{1: 0x00, 2: 0x40, 4: 0x80, 8: 0xc0}[size]
	b := make([]byte, size)
	for i := range b {
		b[size-1-i] = byte(n >> (8 * i))
	}
	b[0] |= mark
	return b
}

// TestSize: P1.1, the size of a number's shortest bytes.
func TestSize(t *testing.T) {
	for _, x := range table() {
		if got := Size(x.n); got != len(x.b) {
			t.Errorf("Size(%d) = %d, want %d", x.n, got, len(x.b))
		}
	}
}

// TestSizeTooGreat: P1.1, 0 above MaxVar.
func TestSizeTooGreat(t *testing.T) {
	for _, n := range tooGreat() {
		if got := Size(n); got != 0 {
			t.Errorf("Size(%d) = %d, want 0", n, got)
		}
	}
}

// TestAppend: P1.1, each number's shortest bytes, alone and behind others.
func TestAppend(t *testing.T) {
	for _, x := range table() {
		for _, ahead := range [][]byte{nil, {}, {9}, {0xff, 0, 0xc0}} {
			got, e := Append(ahead, x.n)
			want := append(bytes.Clone(ahead), x.b...)
			if e != api.OK || !bytes.Equal(got, want) {
				t.Errorf("Append(%x, %d) = %x, %d, want %x", ahead, x.n, got, e, want)
			}
		}
	}
}

// TestAppendMany: P1.1, all numbers in order.
func TestAppendMany(t *testing.T) {
	var l []uint64
	want := []byte{7, 8}
	for _, x := range table() {
		l = append(l, x.n)
		want = append(want, x.b...)
	}
	got, e := Append([]byte{7, 8}, l...)
	if e != api.OK || !bytes.Equal(got, want) {
		t.Errorf("Append of all = %x, %d, want %x", got, e, want)
	}
}

// TestAppendNone: P1.1, of no numbers b itself is answered.
func TestAppendNone(t *testing.T) {
	for _, b := range [][]byte{nil, {}, {1, 2, 3}} {
		if got, e := Append(b); e != api.OK || !bytes.Equal(got, b) {
			t.Errorf("Append(%x) = %x, %d", b, got, e)
		}
	}
}

// TestAppendTooGreat: P1.1, ErrRange and no bytes, wherever the great number stands; b is as it was.
func TestAppendTooGreat(t *testing.T) {
	for _, n := range tooGreat() {
		for _, l := range [][]uint64{{n}, {n, 1}, {1, n}, {1, n, 70000}, {n, n}} {
			b := append(make([]byte, 0, 64), 5, 6)
			got, e := Append(b, l...)
			if e != api.ErrRange || len(got) != 0 {
				t.Errorf("Append of %d = %x, %d, want none, ErrRange", l, got, e)
			}
			if !bytes.Equal(b[:4], []byte{5, 6, 0, 0}) {
				t.Errorf("Append of %d wrote into b: %x", l, b[:4])
			}
		}
	}
}

// TestAppendOwn: P1.1, the answer is in bytes of its own, whether b has room behind it or not.
func TestAppendOwn(t *testing.T) {
	for _, room := range []int{3, 64} {
		for _, l := range [][]uint64{nil, {1}, {70000, 2}} {
			b := append(make([]byte, 0, room), 1, 2, 3)
			first, _ := Append(b, l...)
			kept := bytes.Clone(first)
			second, _ := Append(b, 63, 63, 63, 63, 63)
			clear(b[:cap(b)])
			clear(second)
			if !bytes.Equal(first, kept) {
				t.Errorf("room %d, numbers %d: the answer became %x, was %x", room, l, first, kept)
			}
			for i := range first {
				first[i] = 0xee
			}
			if bytes.IndexByte(b[:cap(b)], 0xee) >= 0 {
				t.Errorf("room %d, numbers %d: what is written into the answer is in b", room, l)
			}
		}
	}
}

// TestAppendKeepsNumbers: P1.1, the list of numbers is not changed.
func TestAppendKeepsNumbers(t *testing.T) {
	l := []uint64{5, 500, 50000, 1 << 40}
	if _, e := Append(nil, l...); e != api.OK {
		t.Fatal(e)
	}
	for i, n := range []uint64{5, 500, 50000, 1 << 40} {
		if l[i] != n {
			t.Errorf("number %d became %d", n, l[i])
		}
	}
}

// TestTake: P1.2, a number's shortest bytes, with nothing and with something behind them.
func TestTake(t *testing.T) {
	for _, x := range table() {
		for _, behind := range [][]byte{nil, {0}, {0xff, 0xff}, {0xc0, 1, 2, 3, 4, 5, 6, 7, 8, 9}} {
			b := append(bytes.Clone(x.b), behind...)
			n, used, ok := Take(b)
			if n != x.n || used != len(x.b) || !ok {
				t.Errorf("Take(%x) = %d, %d, %v, want %d, %d, true", b, n, used, ok, x.n, len(x.b))
			}
		}
	}
}

// TestTakeLonger: P1.2, bytes longer than the shortest ones are taken too.
func TestTakeLonger(t *testing.T) {
	for _, x := range table() {
		for _, size := range []int{1, 2, 4, 8} {
			if size < len(x.b) {
				continue
			}
			b := append(long(x.n, size), 0xaa)
			n, used, ok := Take(b)
			if n != x.n || used != size || !ok {
				t.Errorf("Take(%x) = %d, %d, %v, want %d, %d, true", b, n, used, ok, x.n, size)
			}
		}
	}
}

// TestTakeShort: P1.2, of bytes cut short: 0, 0 and false.
func TestTakeShort(t *testing.T) {
	for _, x := range table() {
		for cut := range len(x.b) {
			n, used, ok := Take(x.b[:cut])
			if n != 0 || used != 0 || ok {
				t.Errorf("Take(%x) = %d, %d, %v, want 0, 0, false", x.b[:cut], n, used, ok)
			}
		}
	}
	if n, used, ok := Take(nil); n != 0 || used != 0 || ok {
		t.Errorf("Take(nil) = %d, %d, %v", n, used, ok)
	}
}

// TestTakeFirst: P1.2, each first byte alone, and with all that it asks for less one, is of no number if it asks for more.
func TestTakeFirst(t *testing.T) {
	for first := range 256 {
		size := []int{1, 2, 4, 8}[first>>6]
		b := make([]byte, size)
		b[0] = byte(first)
		if n, used, ok := Take(b); n != uint64(first&63)<<(8*(size-1)) || used != size || !ok {
			t.Errorf("Take(%x) = %d, %d, %v", b, n, used, ok)
		}
		if n, used, ok := Take(b[:size-1]); n != 0 || used != 0 || ok {
			t.Errorf("Take(%x) = %d, %d, %v, want 0, 0, false", b[:size-1], n, used, ok)
		}
	}
}

// TestTakeExamples: P1.2, the document's examples.
func TestTakeExamples(t *testing.T) {
	if n, used, ok := Take([]byte{0x40, 0x25}); n != 37 || used != 2 || !ok {
		t.Error(n, used, ok)
	}
	if n, used, ok := Take([]byte{0x7b}); n != 0 || used != 0 || ok {
		t.Error(n, used, ok)
	}
	if n, used, ok := Take([]byte{}); n != 0 || used != 0 || ok {
		t.Error(n, used, ok)
	}
}

// counted answers the number of the bytes, in so many bytes, and the bytes behind it.
func counted(size int, b []byte) []byte {
	return append(long(uint64(len(b)), size), b...)
}

// TestBytes: P1.2, a number and so many bytes, whatever stands behind, however long the number's bytes are.
func TestBytes(t *testing.T) {
	for _, many := range []int{0, 1, 2, 62, 63, 64, 65, 1000, 16383, 16384, 20000} {
		want := make([]byte, many)
		for i := range want {
			want[i] = byte(i*7 + 1)
		}
		for _, size := range []int{1, 2, 4, 8} {
			if size < Size(uint64(many)) {
				continue
			}
			for _, behind := range [][]byte{nil, {0xc1}, {1, 2, 3}} {
				got, used, ok := Bytes(append(counted(size, want), behind...))
				if !bytes.Equal(got, want) || used != size+many || !ok {
					t.Errorf("%d bytes, their number in %d: %d bytes, used %d, %v", many, size, len(got), used, ok)
				}
			}
		}
	}
}

// TestBytesShort: P1.2, none, 0 and false of bytes cut short, in the number and behind it.
func TestBytesShort(t *testing.T) {
	for _, size := range []int{1, 2, 4, 8} {
		b := counted(size, []byte{5, 6, 7})
		for cut := range b {
			got, used, ok := Bytes(b[:cut])
			if len(got) != 0 || used != 0 || ok {
				t.Errorf("Bytes(%x) = %x, %d, %v, want none, 0, false", b[:cut], got, used, ok)
			}
		}
	}
	if got, used, ok := Bytes(nil); len(got) != 0 || used != 0 || ok {
		t.Errorf("Bytes(nil) = %x, %d, %v", got, used, ok)
	}
}

// TestBytesHuge: P1.2 and R1, a number that no list has so many bytes as: false, without a panic.
func TestBytesHuge(t *testing.T) {
	for _, n := range []uint64{64, 1 << 14, 1<<31 - 1, 1 << 31, 1<<32 - 1, 1 << 32, 1<<32 + 1, api.MaxVar - 7, api.MaxVar} {
		b := append(long(n, 8), 1, 2, 3)
		got, used, ok := Bytes(b)
		if len(got) != 0 || used != 0 || ok {
			t.Errorf("Bytes(%x) = %x, %d, %v, want none, 0, false", b, got, used, ok)
		}
	}
}

// TestBytesOwn: P1.2, the bytes are of their own.
func TestBytesOwn(t *testing.T) {
	b := []byte{2, 5, 6, 7}
	got, _, _ := Bytes(b)
	clear(b)
	if !bytes.Equal(got, []byte{5, 6}) {
		t.Errorf("the answer became %x", got)
	}
	b = []byte{2, 5, 6, 7}
	got, _, _ = Bytes(b)
	got = append(got, 9)
	got[0] = 8
	if !bytes.Equal(b, []byte{2, 5, 6, 7}) {
		t.Errorf("b became %x", b)
	}
}

// TestBytesExamples: P1.2, the document's examples.
func TestBytesExamples(t *testing.T) {
	if got, used, ok := Bytes([]byte{2, 5, 6, 7}); !bytes.Equal(got, []byte{5, 6}) || used != 3 || !ok {
		t.Error(got, used, ok)
	}
	if got, used, ok := Bytes([]byte{3, 5, 6}); len(got) != 0 || used != 0 || ok {
		t.Error(got, used, ok)
	}
}

// TestRound: P1.3, what was appended is taken as it was, one behind the other, whatever stands behind.
func TestRound(t *testing.T) {
	l := spread()
	for _, behind := range [][]byte{nil, {0}, {0x40}, {0xff, 0xfe, 0xfd}} {
		b, e := Append(nil, l...)
		if e != api.OK {
			t.Fatal(e)
		}
		b = append(b, behind...)
		for _, want := range l {
			n, used, ok := Take(b)
			if n != want || used != Size(want) || !ok {
				t.Fatalf("taken %d, %d, %v, want %d, %d, true", n, used, ok, want, Size(want))
			}
			b = b[used:]
		}
		if !bytes.Equal(b, behind) {
			t.Errorf("left %x, want %x", b, behind)
		}
	}
}

// TestNothingShorter: P1.3, no number's bytes can be had in fewer: cut they are none's, and the greatest number of each shorter size is below.
func TestNothingShorter(t *testing.T) {
	for _, n := range spread() {
		b, e := Append(nil, n)
		if e != api.OK {
			t.Fatal(n, e)
		}
		for cut := range b {
			if m, used, ok := Take(b[:cut]); m != 0 || used != 0 || ok {
				t.Errorf("Take(%x) of %d cut = %d, %d, %v", b[:cut], n, m, used, ok)
			}
		}
		for size := 1; size < len(b); size *= 2 {
			greatest := bytes.Repeat([]byte{0xff}, size)
			greatest[0] = long(0, size)[0] | 0x3f
			if m, _, ok := Take(greatest); !ok || m >= n {
				t.Errorf("%d took %d bytes, and %d bytes have numbers up to %d", n, len(b), size, m)
			}
		}
	}
}

// TestShortOnes: P1.3, over all one-byte and two-byte beginnings: what is taken is appended in as many bytes at most.
func TestShortOnes(t *testing.T) {
	for x := range 1 << 16 {
		b := []byte{byte(x >> 8), byte(x)}
		n, used, ok := Take(b)
		if ok != (b[0] < 0x80) {
			t.Fatalf("Take(%x): %v", b, ok)
		}
		if !ok {
			continue
		}
		own, e := Append(nil, n)
		if e != api.OK || len(own) > used {
			t.Fatalf("Append of %d, taken of %x: %x, %d", n, b[:used], own, e)
		}
		if m, _, _ := Take(own); m != n {
			t.Fatalf("%d became %d", n, m)
		}
	}
}
