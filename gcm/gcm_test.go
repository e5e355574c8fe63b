package gcm

import (
	"bytes"
	libraryAes "crypto/aes"
	"crypto/cipher"
	"encoding/binary"
	"encoding/hex"
	"math"
	"math/rand"
	"slices"
	"strings"
	"testing"

	"hostler/aes"
)

// bare is the bytes that a text tells to the base 16.
func bare(t *testing.T, s string) []byte {
	t.Helper()
	b, err := hex.DecodeString(strings.ReplaceAll(s, " ", ""))
	if err != nil {
		t.Fatal(s, err)
	}
	return b
}

// some is bytes by chance.
func some(r *rand.Rand, n int) []byte {
	b := make([]byte, n)
	r.Read(b)
	return b
}

// oneBit is the block of x^power, by the document's words.
func oneBit(power int) [16]byte {
	var b [16]byte
	b[power/8] = 128 >> (power % 8)
	return b
}

// edges are blocks of which nothing is by chance: of one byte each, and of one bit each.
func edges() [][16]byte {
	l := [][16]byte{{}, [16]byte(bytes.Repeat([]byte{255}, 16)), [16]byte(bytes.Repeat([]byte{1}, 16)), [16]byte(bytes.Repeat([]byte{128}, 16))}
	for power := range 128 {
		l = append(l, oneBit(power))
	}
	return l
}

// powers tells whether a block has x^0, x^1 and so on.
func powers(b [16]byte) [128]bool {
	var l [128]bool
	for i := range l {
		l[i] = b[i/8]>>(7-i%8)&1 == 1
	}
	return l
}

// product is that of two blocks, as the document's words have it: of the polynomials first, then modulo the one of degree 128.
func product(a, b [16]byte) [16]byte {
	var all [255]bool
	l, m := powers(a), powers(b)
	for i, has := range l {
		for j := 0; has && j < len(m); j++ {
			all[i+j] = all[i+j] != m[j]
		}
	}
	for i := len(all) - 1; i >= 128; i-- {
		for _, power := range []int{7, 2, 1, 0} {
			all[i-128+power] = all[i-128+power] != all[i]
		}
	}
	var c [16]byte
	for i, has := range all[:128] {
		if has {
			c[i/8] |= 128 >> (i % 8)
		}
	}
	return c
}

// theHash is that of bytes under a block, as the document's words have it.
func theHash(h [16]byte, b []byte) [16]byte {
	var y [16]byte
	for part := range slices.Chunk(b, 16) {
		for i, x := range part {
			y[i] ^= x
		}
		y = product(y, h)
	}
	return y
}

// library is the library's cipher.
func library(t *testing.T, key [16]byte) cipher.Block {
	t.Helper()
	c, err := libraryAes.NewCipher(key[:])
	if err != nil {
		t.Fatal(err)
	}
	return c
}

// theSealed is the text that the library seals.
func theSealed(t *testing.T, key [16]byte, nonce [12]byte, aad, plain []byte) []byte {
	t.Helper()
	g, err := cipher.NewGCM(library(t, key))
	if err != nil {
		t.Fatal(err)
	}
	return g.Seal(nil, nonce[:], plain, aad)
}

// opens fails unless the text is opened as it was.
func opens(t *testing.T, key [16]byte, nonce [12]byte, aad, sealed, plain []byte) {
	t.Helper()
	got, ok := Open(key, nonce, aad, sealed)
	if !ok || !bytes.Equal(got, plain) {
		t.Errorf("key %x, nonce %x, aad %x, sealed %x: %x, %v, want %x", key, nonce, aad, sealed, got, ok, plain)
	}
}

// shut fails unless the text is not opened, and none is answered.
func shut(t *testing.T, what string, key [16]byte, nonce [12]byte, aad, sealed []byte) {
	t.Helper()
	if got, ok := Open(key, nonce, aad, sealed); ok || got != nil {
		t.Errorf("%s: key %x, nonce %x, aad %x, sealed %x: %x, %v", what, key, nonce, aad, sealed, got, ok)
	}
}

// known are texts, and what the standards tell that they are sealed to; those without a text or an aad are among them.
var known = []struct{ key, nonce, aad, plain, sealed string }{
	{"00000000000000000000000000000000", "000000000000000000000000", "", "", "58e2fccefa7e3061367f1d57a4e7455a"},
	{
		"00000000000000000000000000000000", "000000000000000000000000", "", "00000000000000000000000000000000",
		"0388dace60b6a392f328c2b971b2fe78 ab6e47d42cec13bdf53a67b21257bddf",
	},
	{
		"feffe9928665731c6d6a8f9467308308", "cafebabefacedbaddecaf888", "",
		"d9313225f88406e5a55909c5aff5269a86a7a9531534f7da2e4c303d8a318a721c3c0c95956809532fcf0e2449a6b525b16aedf5aa0de657ba637b391aafd255",
		"42831ec2217774244b7221b784d0d49ce3aa212f2c02a4e035c17e2329aca12e21d514b25466931c7d8f6a5aac84aa051ba30b396a0aac973d58e091473f5985" +
			"4d5c2af327cd64a62cf35abd2ba6fab4",
	},
	{
		"feffe9928665731c6d6a8f9467308308", "cafebabefacedbaddecaf888", "feedfacedeadbeeffeedfacedeadbeefabaddad2",
		"d9313225f88406e5a55909c5aff5269a86a7a9531534f7da2e4c303d8a318a721c3c0c95956809532fcf0e2449a6b525b16aedf5aa0de657ba637b39",
		"42831ec2217774244b7221b784d0d49ce3aa212f2c02a4e035c17e2329aca12e21d514b25466931c7d8f6a5aac84aa051ba30b396a0aac973d58e091" +
			"5bc94fbc3221a5db94fae95ae7121a47",
	},
	// A Retry packet of QUIC's standard: an aad, and no text.
	{
		"be0c690b9f66575a1d766b54e368c84e", "461599d35d632bf2239825bb",
		"088394c8f03e515708 ff000000010008f067a5502a4262b5 746f6b656e", "", "04a265ba2eff4d829058fb3f0f2496ba",
	},
}

// TestKnown: P9.2 and P9.3, the document's examples, and texts of the standards.
func TestKnown(t *testing.T) {
	for _, x := range known {
		key, nonce := [16]byte(bare(t, x.key)), [12]byte(bare(t, x.nonce))
		aad, plain, sealed := bare(t, x.aad), bare(t, x.plain), bare(t, x.sealed)
		if got := Seal(key, nonce, aad, plain); !bytes.Equal(got, sealed) {
			t.Errorf("%s: %x, want %x", x.plain, got, sealed)
		}
		opens(t, key, nonce, aad, sealed, plain)
	}
}

// TestKnownHashes: P9.1, the hashes that the standard tells, of a text and its length.
func TestKnownHashes(t *testing.T) {
	for _, x := range []struct{ h, b, want string }{
		{"66e94bd4ef8a2c3b884cfa59ca342b2e", "00000000000000000000000000000000", "00000000000000000000000000000000"},
		{
			"66e94bd4ef8a2c3b884cfa59ca342b2e", "0388dace60b6a392f328c2b971b2fe78 00000000000000000000000000000080",
			"f38cbb1ad69223dcc3457ae5b6b0f885",
		},
		{
			"b83b533708bf535d0aa6e52980d53b78",
			"42831ec2217774244b7221b784d0d49ce3aa212f2c02a4e035c17e2329aca12e21d514b25466931c7d8f6a5aac84aa051ba30b396a0aac973d58e091473f5985" +
				"00000000000000000000000000000200",
			"7f1b32b81b820d02614f8895ac1d4eac",
		},
		{
			"b83b533708bf535d0aa6e52980d53b78",
			"feedfacedeadbeeffeedfacedeadbeefabaddad2 000000000000000000000000" +
				"42831ec2217774244b7221b784d0d49ce3aa212f2c02a4e035c17e2329aca12e21d514b25466931c7d8f6a5aac84aa051ba30b396a0aac973d58e091 00000000" +
				"00000000000000a0 00000000000001e0",
			"698e57f70e6ecc7fd9463b7260a9ae5f",
		},
	} {
		if got := Hash([16]byte(bare(t, x.h)), bare(t, x.b)); got != [16]byte(bare(t, x.want)) {
			t.Errorf("%s: %s: %x, want %s", x.h, x.b, got, x.want)
		}
	}
}

// TestPowers: P9.1, a block of one power is multiplied by each other one: the powers are added, and above x^127 the modulus tells what stands.
func TestPowers(t *testing.T) {
	for i := range 128 {
		for j := range 128 {
			b := oneBit(j)
			got := Hash(oneBit(i), b[:])
			if want := product(oneBit(i), b); got != want {
				t.Fatalf("x^%d by x^%d: %x, want %x", i, j, got, want)
			}
			if i+j < 128 && got != oneBit(i+j) {
				t.Fatalf("x^%d by x^%d: %x", i, j, got)
			}
		}
	}
	x, last := oneBit(1), oneBit(127)
	if got := Hash(x, last[:]); got != ([16]byte{0xe1}) {
		t.Errorf("x^128: %x", got)
	}
}

// TestHash: P9.1, blocks of one byte, of one bit, and by chance, under each of these kinds.
func TestHash(t *testing.T) {
	r := rand.New(rand.NewSource(91))
	l := append(edges(), [16]byte(some(r, 16)), [16]byte(some(r, 16)))
	for _, h := range l {
		for _, b := range l {
			if got, want := Hash(h, b[:]), theHash(h, b[:]); got != want {
				t.Fatalf("%x: %x: %x, want %x", h, b, got, want)
			}
		}
	}
	for range 500 {
		h, b := [16]byte(some(r, 16)), some(r, r.Intn(100))
		if got, want := Hash(h, b), theHash(h, b); got != want {
			t.Fatalf("%x: %x: %x, want %x", h, b, got, want)
		}
	}
}

// TestHashLengths: P9.1, no bytes, and all numbers of them about the blocks' ends: bytes 0 behind the last ones change nothing until the block is whole.
func TestHashLengths(t *testing.T) {
	r := rand.New(rand.NewSource(92))
	h := [16]byte(some(r, 16))
	for n := range 100 {
		b := append(some(r, n), 1)
		want := theHash(h, b)
		if got := Hash(h, b); got != want {
			t.Errorf("%d bytes: %x, want %x", len(b), got, want)
		}
		whole := (len(b) + 15) / 16 * 16
		for len(b) < whole {
			b = append(b, 0)
			if got := Hash(h, b); got != want {
				t.Errorf("%d bytes, some of them 0: %x, want %x", len(b), got, want)
			}
		}
		if got := Hash(h, append(b, 0)); got == want {
			t.Errorf("%d bytes, and a block of 0: the same", len(b))
		}
	}
	for i, none := range [][]byte{nil, {}} {
		if got := Hash(h, none); got != ([16]byte{}) {
			t.Errorf("none, %d: %x", i, got)
		}
	}
	if got := Hash([16]byte{}, some(r, 100)); got != ([16]byte{}) {
		t.Errorf("under a block of 0: %x", got)
	}
}

// TestSeal: P9.2 and P9.3, texts and aads of all numbers of bytes about the blocks' ends.
func TestSeal(t *testing.T) {
	r := rand.New(rand.NewSource(93))
	for n := range 70 {
		for m := range 70 {
			key, nonce := [16]byte(some(r, 16)), [12]byte(some(r, 12))
			aad, plain := some(r, m), some(r, n)
			sealed := Seal(key, nonce, aad, plain)
			if want := theSealed(t, key, nonce, aad, plain); !bytes.Equal(sealed, want) {
				t.Fatalf("%d bytes, aad of %d: %x, want %x", n, m, sealed, want)
			}
			opens(t, key, nonce, aad, sealed, plain)
		}
	}
}

// TestSealEdges: P9.2 and P9.3, keys and nonces of which nothing is by chance.
func TestSealEdges(t *testing.T) {
	r := rand.New(rand.NewSource(94))
	aad, plain := some(r, 21), some(r, 35)
	for _, key := range edges() {
		for _, b := range edges() {
			nonce := [12]byte(b[:12])
			sealed := Seal(key, nonce, aad, plain)
			if want := theSealed(t, key, nonce, aad, plain); !bytes.Equal(sealed, want) {
				t.Fatalf("key %x, nonce %x: %x, want %x", key, nonce, sealed, want)
			}
		}
		opens(t, key, [12]byte{}, aad, Seal(key, [12]byte{}, aad, plain), plain)
	}
}

// TestLong: P9.2 and P9.3, texts and aads whose bits need one, two and three bytes to be counted, and whose blocks do as well.
func TestLong(t *testing.T) {
	r := rand.New(rand.NewSource(95))
	key, nonce := [16]byte(some(r, 16)), [12]byte(some(r, 12))
	for _, n := range []int{31, 32, 1200, 4063, 4064, 4065, 8191, 8192, 60000, 1<<20 - 32, 1<<20 + 1} {
		for _, m := range []int{0, 31, 32, 8192} {
			for _, swapped := range []bool{false, true} {
				aad, plain := some(r, m), some(r, n)
				if swapped {
					aad, plain = plain, aad
				}
				sealed := Seal(key, nonce, aad, plain)
				if !bytes.Equal(sealed, theSealed(t, key, nonce, aad, plain)) {
					t.Fatalf("%d bytes, aad of %d: not what the library seals", len(plain), len(aad))
				}
				if got, ok := Open(key, nonce, aad, sealed); !ok || !bytes.Equal(got, plain) {
					t.Fatalf("%d bytes, aad of %d: not opened", len(plain), len(aad))
				}
			}
		}
	}
}

// TestCounts: P9.2, the stream's blocks of counts that need all four bytes, which no text of a test has.
func TestCounts(t *testing.T) {
	r := rand.New(rand.NewSource(96))
	key, nonce := [16]byte(some(r, 16)), [12]byte(some(r, 12))
	s := stream{aes.New(key), nonce}
	for _, count := range []uint32{0, 1, 2, 255, 256, 1<<16 - 1, 1 << 16, 1<<24 - 1, 1 << 24, 0x01020304, math.MaxInt32, math.MaxUint32} {
		var want [16]byte
		library(t, key).Encrypt(want[:], binary.BigEndian.AppendUint32(nonce[:], count))
		if got := s.block(count); got != want {
			t.Errorf("%d: %x, want %x", count, got, want)
		}
	}
}

// TestEachBit: P9.3, a bit that is changed, of the text, of its tag, or of the aad, and it is not opened; nor under another key or nonce.
func TestEachBit(t *testing.T) {
	r := rand.New(rand.NewSource(97))
	key, nonce := [16]byte(some(r, 16)), [12]byte(some(r, 12))
	for _, n := range []int{0, 1, 15, 16, 17, 40} {
		aad, plain := some(r, n), some(r, n)
		sealed := Seal(key, nonce, aad, plain)
		for what, b := range map[string][]byte{"sealed": sealed, "aad": aad, "key": key[:], "nonce": nonce[:]} {
			for bit := range 8 * len(b) {
				b[bit/8] ^= 1 << (bit % 8)
				shut(t, what, key, nonce, aad, sealed)
				b[bit/8] ^= 1 << (bit % 8)
			}
		}
		opens(t, key, nonce, aad, sealed, plain)
	}
}

// TestFewBytes: P9.2, what has fewer than 16 bytes is not opened; just 16 are, where they are the tag of no text.
func TestFewBytes(t *testing.T) {
	r := rand.New(rand.NewSource(98))
	key, nonce := [16]byte(some(r, 16)), [12]byte(some(r, 12))
	for _, aad := range [][]byte{nil, {}, some(r, 5), some(r, 16)} {
		tag := Seal(key, nonce, aad, nil)
		if len(tag) != 16 || !bytes.Equal(tag, Seal(key, nonce, aad, []byte{})) {
			t.Errorf("aad %x: %x", aad, tag)
		}
		opens(t, key, nonce, aad, tag, nil)
		shut(t, "nil", key, nonce, aad, nil)
		shut(t, "16 bytes 0", key, nonce, aad, make([]byte, 16))
		for n := range 16 {
			shut(t, "the tag's first bytes", key, nonce, aad, tag[:n])
			shut(t, "the tag's last bytes", key, nonce, aad, tag[16-n:][:n])
			shut(t, "bytes 0", key, nonce, aad, make([]byte, n))
		}
	}
}

// TestOtherBytes: P9.2, what is cut, longer, or cut elsewhere between aad and text is not opened; nor any bytes by chance.
func TestOtherBytes(t *testing.T) {
	r := rand.New(rand.NewSource(99))
	key, nonce := [16]byte(some(r, 16)), [12]byte(some(r, 12))
	aad, plain := some(r, 32), some(r, 40)
	sealed := Seal(key, nonce, aad, plain)
	for n := range sealed {
		shut(t, "cut behind", key, nonce, aad, sealed[:n])
		if n > 0 {
			shut(t, "cut ahead", key, nonce, aad, sealed[n:])
		}
	}
	for n := 1; n <= 33; n++ {
		more := make([]byte, n)
		shut(t, "bytes behind", key, nonce, aad, slices.Concat(sealed, more))
		shut(t, "bytes ahead", key, nonce, aad, slices.Concat(more, sealed))
		shut(t, "bytes ahead of the tag", key, nonce, aad, slices.Concat(sealed[:40], more, sealed[40:]))
		shut(t, "a longer aad", key, nonce, slices.Concat(aad, more), sealed)
		shut(t, "bytes of the text", key, nonce, slices.Concat(aad, sealed[:n]), sealed[n:])
	}
	for n := range aad {
		shut(t, "a shorter aad", key, nonce, aad[:n], sealed)
		shut(t, "bytes of the aad", key, nonce, aad[:n], slices.Concat(aad[n:], sealed))
	}
	for n := range 200 {
		shut(t, "by chance", key, nonce, aad, some(r, n))
	}
}

// TestHandedIn: R3 and R5, what is handed in is not changed, nor what lies behind its end, nor has an answer a part of it; the same is answered again.
func TestHandedIn(t *testing.T) {
	r := rand.New(rand.NewSource(100))
	key, nonce, h := [16]byte(some(r, 16)), [12]byte(some(r, 12)), [16]byte(some(r, 16))
	for _, n := range []int{0, 1, 16, 20, 64} {
		all := some(r, 5*n+64)
		aad, plain, box := all[:n], all[n:2*n], all[2*n:3*n+16]
		copy(box, Seal(key, nonce, aad, plain))
		was := bytes.Clone(all)
		sum, sealed := Hash(h, plain), Seal(key, nonce, aad, plain)
		opened, ok := Open(key, nonce, aad, box)
		again, _ := Open(key, nonce, aad, box)
		if !ok || !bytes.Equal(opened, plain) || !bytes.Equal(again, plain) {
			t.Errorf("%d bytes: not opened", n)
		}
		shut(t, "another tag", key, nonce, aad, all[2*n:3*n+17])
		if !bytes.Equal(all, was) {
			t.Errorf("%d bytes: what was handed in has changed", n)
		}
		clear(all)
		clear(opened)
		if !bytes.Equal(again, was[n:2*n]) || !bytes.Equal(sealed, was[2*n:3*n+16]) {
			t.Errorf("%d bytes: an answer has changed", n)
		}
		if Hash(h, was[n:2*n]) != sum || !bytes.Equal(Seal(key, nonce, was[:n], was[n:2*n]), sealed) {
			t.Errorf("%d bytes: other answers", n)
		}
	}
}
