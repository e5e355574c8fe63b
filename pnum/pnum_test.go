package pnum

import (
	"math"
	"math/big"
	"math/rand"
	"testing"

	"hostler/api"
)

const (
	most  = uint64(api.MaxVar)
	above = most + 1
	all64 = uint64(math.MaxUint64)
)

// wrongBytes are such as no packet number may go in.
func wrongBytes() []int {
	return []int{0, -1, -4, 5, 6, 8, 9, 64, 256 + 1, 1<<32 + 1, math.MinInt, math.MinInt + 1, math.MaxInt}
}

// edges are numbers about the powers of two, up to the greatest of 64 bits.
func edges() []uint64 {
	var l []uint64
	for bit := range 64 {
		n := uint64(1) << bit
		l = append(l, n-1, n, n+1, n|n>>1|n>>3|n>>7)
	}
	return append(l, 11266227, 2821665003, all64-1, all64)
}

// bytesOf is P5.1 word by word, in numbers without a bound.
func bytesOf(full, acked uint64, has bool) int {
	w := new(big.Int).SetUint64(full)
	if has {
		w.Sub(w, new(big.Int).SetUint64(acked))
	} else {
		w.Add(w, big.NewInt(1))
	}
	if w.Sign() < 0 {
		w.SetInt64(0)
	}
	for bytes := 1; bytes <= 4; bytes++ {
		half := new(big.Int).Lsh(big.NewInt(1), uint(8*bytes-1))
		if half.Cmp(w) > 0 {
			return bytes
		}
	}
	return 4
}

// nearest is P5.2 word by word: it goes away from next in both directions till low bytes are met.
func nearest(next, truncated uint64, bytes int) uint64 {
	mask := uint64(1)<<(8*bytes) - 1
	next = min(next, most)
	for off := uint64(0); ; off++ {
		if n := next + off; n <= most && n&mask == truncated&mask {
			return n
		}
		if n := next - off; off <= next && n&mask == truncated&mask {
			return n
		}
	}
}

// TestBytesExamples: P5.1, the document's examples.
func TestBytesExamples(t *testing.T) {
	if got := Bytes(11295746, 11266227, true); got != 2 {
		t.Error(got)
	}
	if got := Bytes(11331838, 11266227, true); got != 3 {
		t.Error(got)
	}
}

// TestBytes: P5.1, the greatest number that goes in each number of bytes, and the one behind it, wherever acked is.
func TestBytes(t *testing.T) {
	table := []struct {
		w     uint64
		bytes int
	}{
		{1, 1}, {2, 1}, {126, 1}, {127, 1},
		{128, 2}, {129, 2}, {255, 2}, {256, 2}, {32767, 2},
		{32768, 3}, {32769, 3}, {65536, 3}, {1<<23 - 1, 3},
		{1 << 23, 4}, {1<<23 + 1, 4}, {1 << 24, 4}, {1<<31 - 1, 4},
		{1 << 31, 4}, {1<<31 + 1, 4}, {1 << 32, 4}, {1 << 40, 4}, {1<<61 - 1, 4},
	}
	for _, x := range table {
		for _, acked := range []uint64{0, 1, 200, 65535, 1 << 32, 1<<61 + 77, most - x.w} {
			if got := Bytes(acked+x.w, acked, true); got != x.bytes {
				t.Errorf("Bytes(%d, %d, true) = %d, want %d", acked+x.w, acked, got, x.bytes)
			}
		}
	}
}

// TestBytesNone: P5.1, if none was acknowledged the number itself counts too, and acked does not.
func TestBytesNone(t *testing.T) {
	table := []struct {
		full  uint64
		bytes int
	}{
		{0, 1}, {1, 1}, {126, 1},
		{127, 2}, {128, 2}, {32766, 2},
		{32767, 3}, {32768, 3}, {1<<23 - 2, 3},
		{1<<23 - 1, 4}, {1<<31 - 2, 4}, {1<<31 - 1, 4}, {1 << 31, 4},
		{most, 4}, {above, 4}, {all64 - 1, 4}, {all64, 4},
	}
	for _, x := range table {
		for _, acked := range []uint64{0, 1, x.full - 1, x.full, x.full + 1, most, all64} {
			if got := Bytes(x.full, acked, false); got != x.bytes {
				t.Errorf("Bytes(%d, %d, false) = %d, want %d", x.full, acked, got, x.bytes)
			}
		}
	}
}

// TestBytesNotAbove: P5.1, a number that is not above acked needs one byte, however far below it is.
func TestBytesNotAbove(t *testing.T) {
	for _, acked := range []uint64{0, 1, 128, 1 << 15, 1 << 31, most, above, all64} {
		for _, full := range []uint64{0, 1, 127, acked / 2, acked - min(acked, 128), acked - min(acked, 1), acked} {
			if full > acked {
				continue
			}
			if got := Bytes(full, acked, true); got != 1 {
				t.Errorf("Bytes(%d, %d, true) = %d, want 1", full, acked, got)
			}
		}
	}
}

// TestBytesAll: P5.1 and R1, over pairs of numbers of all lengths, those above MaxVar too.
func TestBytesAll(t *testing.T) {
	for _, full := range edges() {
		for _, acked := range edges() {
			for _, has := range []bool{false, true} {
				if got, want := Bytes(full, acked, has), bytesOf(full, acked, has); got != want {
					t.Errorf("Bytes(%d, %d, %v) = %d, want %d", full, acked, has, got, want)
				}
			}
		}
	}
}

// TestTruncate: P5.2, a number's low bytes.
func TestTruncate(t *testing.T) {
	table := []struct {
		full  uint64
		bytes int
		want  uint64
	}{
		{0, 1, 0}, {0, 4, 0}, {255, 1, 255}, {256, 1, 0}, {257, 1, 1}, {256, 2, 256},
		{65535, 2, 65535}, {65536, 2, 0}, {65536, 3, 65536}, {1<<24 - 1, 3, 1<<24 - 1}, {1 << 24, 3, 0}, {1 << 24, 4, 1 << 24},
		{1<<32 - 1, 4, 1<<32 - 1}, {1 << 32, 4, 0}, {1<<32 + 5, 4, 5},
		{0xa82f9b32, 1, 0x32}, {0xa82f9b32, 2, 0x9b32}, {0xa82f9b32, 3, 0x2f9b32}, {0xa82f9b32, 4, 0xa82f9b32},
		{most, 1, 0xff}, {most, 2, 0xffff}, {most, 3, 0xffffff}, {most, 4, 0xffffffff},
		{above, 4, 0}, {above + 9, 3, 9}, {1<<63 + 1<<31, 4, 1 << 31}, {all64, 1, 0xff}, {all64, 4, 0xffffffff},
	}
	for _, x := range table {
		if got := Truncate(x.full, x.bytes); got != x.want {
			t.Errorf("Truncate(%#x, %d) = %#x, want %#x", x.full, x.bytes, got, x.want)
		}
	}
}

// TestTruncateAll: P5.2, numbers of all lengths.
func TestTruncateAll(t *testing.T) {
	rests := []uint64{256, 65536, 1 << 24, 1 << 32}
	for _, full := range edges() {
		for i, rest := range rests {
			if got, want := Truncate(full, i+1), full%rest; got != want {
				t.Errorf("Truncate(%#x, %d) = %#x, want %#x", full, i+1, got, want)
			}
		}
	}
}

// TestWrongBytes: P5.2 and R1, 0 unless bytes are from 1 to 4.
func TestWrongBytes(t *testing.T) {
	for _, bytes := range wrongBytes() {
		for _, n := range []uint64{0, 1, 255, 1 << 32, most, all64} {
			if got := Truncate(n, bytes); got != 0 {
				t.Errorf("Truncate(%d, %d) = %d, want 0", n, bytes, got)
			}
			for _, low := range []uint64{0, 1, 200, all64} {
				if got := Expand(n, low, bytes); got != 0 {
					t.Errorf("Expand(%d, %d, %d) = %d, want 0", n, low, bytes, got)
				}
			}
		}
	}
}

// TestExpandExamples: P5.2, the document's examples.
func TestExpandExamples(t *testing.T) {
	if got := Expand(2821665003, 39730, 2); got != 2821692210 {
		t.Error(got)
	}
	if got := Expand(0, 255, 1); got != 255 {
		t.Error(got)
	}
	if got := Expand(300, 40, 1); got != 296 {
		t.Error(got)
	}
}

// TestExpand: P5.2, each number of bytes: the nearest one below, in and above the stretch of next; the greater one of two; none below 0.
func TestExpand(t *testing.T) {
	for bytes := 1; bytes <= 4; bytes++ {
		apart := uint64(1) << (8 * bytes)
		half := apart / 2
		table := []struct{ next, truncated, want uint64 }{
			{0, 0, 0}, {0, 1, 1}, {0, half - 1, half - 1}, {0, half, half}, {0, half + 1, half + 1}, {0, apart - 1, apart - 1},
			{half - 1, apart - 1, apart - 1}, {half, 0, apart}, {half - 1, 0, 0}, {half + 1, 0, apart}, {half + 1, 1, apart + 1},
			{apart, 0, apart}, {apart, apart - 1, apart - 1}, {apart, half, apart + half}, {apart, half + 1, half + 1}, {apart, half - 1, apart + half - 1},
			{5*apart + half, 0, 6 * apart}, {5*apart + half - 1, 0, 5 * apart}, {5*apart + half - 1, apart - 1, 5*apart + apart - 1},
			{5 * apart, half, 5*apart + half}, {5*apart + 7, half + 7, 5*apart + half + 7}, {5*apart + 7, half + 8, 4*apart + half + 8},
			{6*apart - 1, half - 1, 6*apart + half - 1}, {6*apart - 1, half, 5*apart + half}, {6*apart - 1, 0, 6 * apart},
		}
		for _, x := range table {
			if got := Expand(x.next, x.truncated, bytes); got != x.want {
				t.Errorf("Expand(%d, %d, %d) = %d, want %d", x.next, x.truncated, bytes, got, x.want)
			}
		}
	}
}

// TestExpandLast: P5.2, no number above MaxVar, also where it would be the nearest one, or the greater one of two.
func TestExpandLast(t *testing.T) {
	for bytes := 1; bytes <= 4; bytes++ {
		apart := uint64(1) << (8 * bytes)
		half := apart / 2
		table := []struct{ next, truncated, want uint64 }{
			{most, apart - 1, most}, {most, 0, above - apart}, {most, 1, above - apart + 1}, {most, half - 1, above - half - 1}, {most, half, above - half},
			{above - half, 0, above - apart}, {above - half + 1, 0, above - apart}, {above - half - 1, 0, above - apart},
			{above - half - 1, apart - 1, most}, {above - apart, half, above - half}, {above - apart, apart - 1, above - apart - 1},
			{above - apart - half, 0, above - apart},
		}
		for _, x := range table {
			if got := Expand(x.next, x.truncated, bytes); got != x.want {
				t.Errorf("Expand(%d, %d, %d) = %d, want %d", x.next, x.truncated, bytes, got, x.want)
			}
		}
	}
}

// TestExpandNextAbove: P5.2, a next above MaxVar counts as MaxVar.
func TestExpandNextAbove(t *testing.T) {
	for bytes := 1; bytes <= 4; bytes++ {
		apart := uint64(1) << (8 * bytes)
		for _, next := range []uint64{above, above + 1, above + apart/2, above + apart, 1 << 63, 1<<63 + apart, all64 - apart, all64} {
			for _, truncated := range []uint64{0, 1, apart/2 - 1, apart / 2, apart/2 + 1, apart - 1} {
				if got, want := Expand(next, truncated, bytes), most-(apart-1-truncated); got != want {
					t.Errorf("Expand(%d, %d, %d) = %d, want %d", next, truncated, bytes, got, want)
				}
			}
		}
	}
}

// TestExpandModulo: P5.2, of truncated its low bytes alone count.
func TestExpandModulo(t *testing.T) {
	for bytes := 1; bytes <= 4; bytes++ {
		apart := uint64(1) << (8 * bytes)
		for _, next := range []uint64{0, 300, 70000, 1 << 33, most, all64} {
			for _, truncated := range []uint64{0, 40, apart/2 + 3, apart - 1} {
				want := Expand(next, truncated, bytes)
				for _, more := range []uint64{apart, 3 * apart, 1 << 62, 1 << 63, all64 - (apart - 1)} {
					if got := Expand(next, truncated+more, bytes); got != want {
						t.Errorf("Expand(%d, %d, %d) = %d, want %d", next, truncated+more, bytes, got, want)
					}
				}
			}
		}
	}
}

// TestExpandAll: P5.2, all of one byte, at the beginning, in the midst and at the end, held against a search of the nearest.
func TestExpandAll(t *testing.T) {
	for _, from := range []uint64{0, 1<<16 - 300, 1<<40 + 5, above - 700} {
		for next := from; next < from+800; next++ {
			for truncated := range uint64(256) {
				if got, want := Expand(next, truncated, 1), nearest(next, truncated, 1); got != want {
					t.Fatalf("Expand(%d, %d, 1) = %d, want %d", next, truncated, got, want)
				}
			}
		}
	}
}

// TestExpandTwo: P5.2, of two bytes many, held against a search of the nearest.
func TestExpandTwo(t *testing.T) {
	r := rand.New(rand.NewSource(5))
	for range 400 {
		for _, from := range []uint64{0, 1 << 33, most - 1<<17} {
			next, truncated := from+uint64(r.Intn(1<<17)), uint64(r.Intn(1<<16))
			if got, want := Expand(next, truncated, 2), nearest(next, truncated, 2); got != want {
				t.Fatalf("Expand(%d, %d, 2) = %d, want %d", next, truncated, got, want)
			}
		}
	}
}

// back tells what the number becomes, cut to as many bytes as it needs and expanded again.
func back(full, acked uint64, has bool, next uint64) uint64 {
	bytes := Bytes(full, acked, has)
	return Expand(next, Truncate(full, bytes), bytes)
}

// TestRoundAll: P5.3, every next from behind acked up to the number, up to as far as two bytes tell, and one past it.
func TestRoundAll(t *testing.T) {
	for _, acked := range []uint64{0, 1, 255, 65535, 1<<32 - 60, 1 << 50, most - 32768} {
		for _, w := range []uint64{1, 2, 126, 127, 128, 129, 255, 256, 257, 32766, 32767, 32768} {
			full := acked + w
			for next := acked + 1; next <= full; next++ {
				if got := back(full, acked, true, next); got != full {
					t.Fatalf("%d, acked %d, next %d: expanded to %d", full, acked, next, got)
				}
			}
		}
	}
}

// TestRoundNone: P5.3, if none was acknowledged, every next from 0 on.
func TestRoundNone(t *testing.T) {
	for _, full := range []uint64{0, 1, 125, 126, 127, 128, 255, 256, 32765, 32766, 32767, 32768} {
		for next := uint64(0); next <= full; next++ {
			if got := back(full, 77, false, next); got != full {
				t.Fatalf("%d, none acked, next %d: expanded to %d", full, next, got)
			}
		}
	}
}

// TestRoundFar: P5.3, numbers of three bytes and four, at the first next, at the last one and between. Up to 2^31+1 numbers from acked on four bytes are enough: the first next is behind acked, and of two that are as near the greater one is taken.
func TestRoundFar(t *testing.T) {
	r := rand.New(rand.NewSource(53))
	for _, w := range []uint64{1<<15 + 1, 1 << 16, 1<<23 - 1, 1 << 23, 1<<23 + 1, 1 << 24, 1<<31 - 2, 1<<31 - 1, 1 << 31, 1<<31 + 1} {
		for _, acked := range []uint64{0, 1, 1<<32 - 1, 1<<40 + 12345, most - w - 1, most - w} {
			full := acked + w
			l := []uint64{acked + 1, acked + 2, full - 1, full}
			for range 200 {
				l = append(l, acked+1+uint64(r.Int63n(int64(w))))
			}
			for _, next := range l {
				if got := back(full, acked, true, next); got != full {
					t.Fatalf("%d, acked %d, next %d: expanded to %d", full, acked, next, got)
				}
			}
		}
	}
}
