package sha

import (
	"bytes"
	"crypto/sha256"
	"encoding/hex"
	"math/rand"
	"slices"
	"strings"
	"testing"
)

const (
	abcSum  = "ba7816bf8f01cfea414140de5dae2223b00361a396177a9cb410ff61f20015ad"
	noneSum = "e3b0c44298fc1c149afbf4c8996fb92427ae41e4649b934ca495991b7852b855"
)

// hexSum is the sum, to the base 16.
func hexSum(l ...[]byte) string {
	sum := Sum(l...)
	return hex.EncodeToString(sum[:])
}

// some is bytes by chance, always the same ones.
func some(n int) []byte {
	b := make([]byte, n)
	rand.New(rand.NewSource(int64(n))).Read(b)
	return b
}

// TestExamples: P6.1, the document's examples.
func TestExamples(t *testing.T) {
	if got := hexSum([]byte("abc")); got != abcSum {
		t.Error(got)
	}
	if got := hexSum([]byte("")); got != noneSum {
		t.Error(got)
	}
}

// TestNone: P6.1, P6.2 and R1, no text at all, and texts of no bytes, are all the text of none.
func TestNone(t *testing.T) {
	for i, l := range [][][]byte{nil, {}, {nil}, {{}}, {nil, nil}, {{}, nil, {}}, make([][]byte, 1000)} {
		if got := hexSum(l...); got != noneSum {
			t.Error(i, got)
		}
	}
}

// TestKnown: P6.1, texts whose sums the standard tells.
func TestKnown(t *testing.T) {
	table := []struct{ text, sum string }{
		{"a", "ca978112ca1bbdcafac231b39a23dc4da786eff8147c4e72b9807785afee48bb"},
		{"message digest", "f7846f55cf23e14eebeab5b4e1550cad5b509e3348fbc4efa3a1413d393cb650"},
		{"abcdbcdecdefdefgefghfghighijhijkijkljklmklmnlmnomnopnopq", "248d6a61d20638b8e5c026930c3e6039a33ce45964ff2167f6ecedd419db06c1"},
		{
			"abcdefghbcdefghicdefghijdefghijkefghijklfghijklmghijklmnhijklmnoijklmnopjklmnopqklmnopqrlmnopqrsmnopqrstnopqrstu",
			"cf5b16a778af8380036ce59e7b0492370b249b11e8f07a51afac45037afee9d1",
		},
		{strings.Repeat("1234567890", 8), "f371bc4a311f2b009eef952dd83ca80e2b60026c8e935592d0f9c308453c813e"},
		{strings.Repeat("a", 1000000), "cdc76e5c9914fb9281a1c7e284d73e67f1809a48a497200e046d39ccc7112cd0"},
	}
	for _, x := range table {
		if got := hexSum([]byte(x.text)); got != x.sum {
			t.Errorf("%.40q of %d bytes: %s, want %s", x.text, len(x.text), got, x.sum)
		}
	}
}

// TestLengths: P6.1, texts of all lengths up to some blocks, so that all numbers of bytes 0 stand behind them: noughts, ones, the mark's own byte, and others.
func TestLengths(t *testing.T) {
	for n := range 5*64 + 2 {
		for _, b := range [][]byte{make([]byte, n), bytes.Repeat([]byte{255}, n), bytes.Repeat([]byte{128}, n), some(n)} {
			if got, want := Sum(b), sha256.Sum256(b); got != want {
				t.Errorf("%x: %x, want %x", b, got, want)
			}
		}
	}
}

// TestEachBit: P6.1, each bit of a text of two blocks counts.
func TestEachBit(t *testing.T) {
	b := some(100)
	seen := map[[32]byte]int{Sum(b): -1}
	for bit := range 8 * len(b) {
		b[bit/8] ^= 1 << (bit % 8)
		got, want := Sum(b), sha256.Sum256(b)
		b[bit/8] ^= 1 << (bit % 8)
		if got != want {
			t.Fatalf("bit %d: %x, want %x", bit, got, want)
		}
		if other, ok := seen[got]; ok {
			t.Fatalf("bits %d and %d: the same sum", bit, other)
		}
		seen[got] = bit
	}
}

// TestMany: P6.1, texts of all sizes up to some thousands of bytes, by chance.
func TestMany(t *testing.T) {
	r := rand.New(rand.NewSource(61))
	for range 2000 {
		b := some(r.Intn(1 << r.Intn(16)))
		if got, want := Sum(b), sha256.Sum256(b); got != want {
			t.Fatalf("%d bytes: %x, want %x", len(b), got, want)
		}
	}
}

// TestLong: P6.1, a text of 2^29 bytes and more has so many bits that four bytes don't tell them.
func TestLong(t *testing.T) {
	part := some(1 << 20)
	l := slices.Repeat([][]byte{part}, 1<<9)
	l = append(l, []byte("abc"))
	h := sha256.New()
	for _, b := range l {
		h.Write(b)
	}
	if got, want := Sum(l...), [32]byte(h.Sum(nil)); got != want {
		t.Errorf("%x, want %x", got, want)
	}
}

// TestCutInTwo: P6.2, every cut of a text, at a block's ends and within, with nothing ahead, between and behind as well.
func TestCutInTwo(t *testing.T) {
	for _, n := range []int{0, 1, 3, 55, 56, 57, 63, 64, 65, 119, 120, 127, 128, 129, 200} {
		b := some(n)
		want := sha256.Sum256(b)
		for at := range n + 1 {
			if got := Sum(b[:at], b[at:]); got != want {
				t.Fatalf("%d bytes, cut at %d: %x, want %x", n, at, got, want)
			}
			if got := Sum(nil, b[:at], []byte{}, nil, b[at:], []byte{}); got != want {
				t.Fatalf("%d bytes, cut at %d, with nothing between: %x, want %x", n, at, got, want)
			}
		}
	}
}

// TestCutInThree: P6.2, every two cuts of a text of more than two blocks.
func TestCutInThree(t *testing.T) {
	b := some(140)
	want := sha256.Sum256(b)
	for j := range len(b) + 1 {
		for i := range j + 1 {
			if got := Sum(b[:i], b[i:j], b[j:]); got != want {
				t.Fatalf("cut at %d and %d: %x, want %x", i, j, got, want)
			}
		}
	}
}

// TestCutEven: P6.2, a text cut into pieces of each size, single bytes among them.
func TestCutEven(t *testing.T) {
	b := some(1000)
	want := sha256.Sum256(b)
	for size := 1; size <= len(b); size++ {
		if got := Sum(slices.Collect(slices.Chunk(b, size))...); got != want {
			t.Fatalf("pieces of %d: %x, want %x", size, got, want)
		}
	}
}

// TestCutByChance: P6.2, many pieces, empty ones and long ones.
func TestCutByChance(t *testing.T) {
	r := rand.New(rand.NewSource(62))
	for range 500 {
		b := some(r.Intn(2000))
		var l [][]byte
		for rest := b; len(rest) > 0; {
			n := min(len(rest), r.Intn(1<<r.Intn(9)))
			l = append(l, rest[:n])
			rest = rest[n:]
		}
		if got, want := Sum(l...), sha256.Sum256(b); got != want {
			t.Fatalf("%d bytes in %d pieces: %x, want %x", len(b), len(l), got, want)
		}
	}
}

// TestOrder: P6.1, the texts stand one behind the other in the order in which they are handed in; the same one may be there more than once.
func TestOrder(t *testing.T) {
	a, b := []byte("ab"), []byte("c")
	if got := hexSum(a, b); got != abcSum {
		t.Error(got)
	}
	if got, want := Sum(b, a), sha256.Sum256([]byte("cab")); got != want {
		t.Errorf("%x, want %x", got, want)
	}
	if got, want := Sum(a, a, b, a), sha256.Sum256([]byte("ababcab")); got != want {
		t.Errorf("%x, want %x", got, want)
	}
}

// TestHandedIn: R3 and R5, neither the list nor its texts are changed, nor what lies behind their ends; the same is answered again, whatever was asked between and whatever becomes of them.
func TestHandedIn(t *testing.T) {
	for _, n := range []int{0, 3, 55, 56, 63, 64, 65, 130} {
		all := some(4 * n)
		was := bytes.Clone(all)
		l := [][]byte{all[:n], all[n : 2*n], nil, all[3*n:]}
		first := Sum(l...)
		Sum(all)
		if again := Sum(l...); again != first {
			t.Errorf("%d bytes each: %x, then %x", n, first, again)
		}
		if !bytes.Equal(all, was) || len(l) != 4 || len(l[0]) != n || len(l[1]) != n || l[2] != nil || len(l[3]) != n {
			t.Errorf("%d bytes each: what was handed in has changed", n)
		}
		want := sha256.Sum256(slices.Concat(l...))
		clear(all)
		if first != want {
			t.Errorf("%d bytes each: %x, want %x", n, first, want)
		}
	}
}
