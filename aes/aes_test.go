package aes

import (
	"crypto/aes"
	"crypto/cipher"
	"encoding/hex"
	"math/bits"
	"math/rand"
	"testing"
)

// block is the one that a text tells to the base 16.
func block(t *testing.T, s string) [16]byte {
	t.Helper()
	b, err := hex.DecodeString(s)
	if err != nil || len(b) != 16 {
		t.Fatal(s, err)
	}
	return [16]byte(b)
}

// some is a block by chance.
func some(r *rand.Rand) [16]byte {
	var b [16]byte
	r.Read(b[:])
	return b
}

// alike is a block of one byte, sixteen times.
func alike(b byte) [16]byte {
	var l [16]byte
	for i := range l {
		l[i] = b
	}
	return l
}

// edges are blocks of which nothing is by chance: of one byte each, and of one bit each.
func edges() [][16]byte {
	l := [][16]byte{alike(0), alike(1), alike(0x52), alike(0x63), alike(0x80), alike(255)}
	for bit := range 128 {
		var b [16]byte
		b[bit/8] = 1 << (bit % 8)
		l = append(l, b)
	}
	return l
}

// library is the library's cipher.
func library(t *testing.T, key [16]byte) cipher.Block {
	t.Helper()
	c, err := aes.NewCipher(key[:])
	if err != nil {
		t.Fatal(err)
	}
	return c
}

// theSealed is the block that the library seals.
func theSealed(t *testing.T, key, plain [16]byte) [16]byte {
	t.Helper()
	var sealed [16]byte
	library(t, key).Encrypt(sealed[:], plain[:])
	return sealed
}

// times multiplies two bytes, as the document's words have it: as polynomials first, then modulo the one of degree 8.
func times(a, b byte) byte {
	var all int
	for power := range 8 {
		if b>>power&1 == 1 {
			all ^= int(a) << power
		}
	}
	for power := 14; power >= 8; power-- {
		if all>>power&1 == 1 {
			all ^= (1<<8 + 1<<4 + 1<<3 + 1<<1 + 1) << (power - 8)
		}
	}
	return byte(all)
}

// theOther is a byte's other one, as the document's words have it.
func theOther(t *testing.T, b byte) byte {
	t.Helper()
	var y byte
	for i := range 256 {
		if times(b, byte(i)) == 1 {
			y = byte(i)
		}
	}
	if (y == 0) != (b == 0) {
		t.Fatalf("%02x: multiplied to 1 by %02x", b, y)
	}
	other := y ^ 99
	for places := 1; places <= 4; places++ {
		other ^= bits.RotateLeft8(y, places)
	}
	return other
}

// theKeys are a key's round keys, column by column, as the document's words have it.
func theKeys(t *testing.T, key [16]byte) [11][16]byte {
	t.Helper()
	var l [44][4]byte
	constant := byte(1)
	for i := range l {
		if i < 4 {
			copy(l[i][:], key[4*i:])
			continue
		}
		ahead := l[i-1]
		if i%4 == 0 {
			ahead = [4]byte{ahead[1], ahead[2], ahead[3], ahead[0]}
			for j, b := range ahead {
				ahead[j] = theOther(t, b)
			}
			ahead[0] ^= constant
			constant = times(constant, 2)
		}
		for j := range ahead {
			l[i][j] = l[i-4][j] ^ ahead[j]
		}
	}
	var keys [11][16]byte
	for i, column := range l {
		copy(keys[i/4][4*(i%4):], column[:])
	}
	return keys
}

// TestExamples: P8.1 and P8.2, the document's examples.
func TestExamples(t *testing.T) {
	for b, want := range map[byte]byte{0: 0x63, 0x53: 0xed, 0xff: 0x16} {
		if got := Sub(b); got != want {
			t.Errorf("%02x: %02x, want %02x", b, got, want)
		}
	}
	c := New(block(t, "000102030405060708090a0b0c0d0e0f"))
	want := block(t, "69c4e0d86a7b0430d8cdb78070b4c55a")
	if got := c.Seal(block(t, "00112233445566778899aabbccddeeff")); got != want {
		t.Errorf("%x, want %x", got, want)
	}
}

// TestSub: P8.1, the other ones of all bytes, each worked out by the document's words.
func TestSub(t *testing.T) {
	for i := range 256 {
		b := byte(i)
		if got, want := Sub(b), theOther(t, b); got != want {
			t.Errorf("%02x: %02x, want %02x", b, got, want)
		}
	}
}

// TestSubApart: P8.3, no two bytes have one other one.
func TestSubApart(t *testing.T) {
	seen := map[byte]int{}
	for i := range 256 {
		other := Sub(byte(i))
		if first, ok := seen[other]; ok {
			t.Errorf("%02x and %02x: both %02x", first, i, other)
		}
		seen[other] = i
	}
}

// TestKnownKeys: P8.1, the round keys that the standard tells.
func TestKnownKeys(t *testing.T) {
	want := []string{
		"2b7e151628aed2a6abf7158809cf4f3c", "a0fafe1788542cb123a339392a6c7605", "f2c295f27a96b9435935807a7359f67f",
		"3d80477d4716fe3e1e237e446d7a883b", "ef44a541a8525b7fb671253bdb0bad00", "d4d1c6f87c839d87caf2b8bc11f915bc",
		"6d88a37a110b3efddbf98641ca0093fd", "4e54f70e5f5fc9f384a64fb24ea6dc4f", "ead27321b58dbad2312bf5607f8d292f",
		"ac7766f319fadc2128d12941575c006e", "d014f9a8c9ee2589e13f0cc8b6630ca6",
	}
	for i, key := range Keys(block(t, want[0])) {
		if key != block(t, want[i]) {
			t.Errorf("round key %d: %x, want %s", i, key, want[i])
		}
	}
}

// TestKeys: P8.1, the round keys of keys of one byte, of one bit, and by chance, each worked out by the document's words.
func TestKeys(t *testing.T) {
	r := rand.New(rand.NewSource(81))
	l := edges()
	for range 100 {
		l = append(l, some(r))
	}
	for _, key := range l {
		if got, want := Keys(key), theKeys(t, key); got != want {
			t.Errorf("%x: %x, want %x", key, got, want)
		}
	}
}

// TestKnown: P8.2, keys and blocks that the standards tell, sealed.
func TestKnown(t *testing.T) {
	const key = "2b7e151628aed2a6abf7158809cf4f3c"
	for _, x := range []struct{ key, plain, sealed string }{
		{key, "3243f6a8885a308d313198a2e0370734", "3925841d02dc09fbdc118597196a0b32"},
		{key, "6bc1bee22e409f96e93d7e117393172a", "3ad77bb40d7a3660a89ecaf32466ef97"},
		{key, "ae2d8a571e03ac9c9eb76fac45af8e51", "f5d3d58503b9699de785895a96fdbaaf"},
		{key, "30c81c46a35ce411e5fbc1191a0a52ef", "43b1cd7f598ece23881b00e3ed030688"},
		{key, "f69f2445df4f9b17ad2b417be66c3710", "7b0c785e27e8ad3f8223207104725dd4"},
		{"00000000000000000000000000000000", "00000000000000000000000000000000", "66e94bd4ef8a2c3b884cfa59ca342b2e"},
	} {
		if got := New(block(t, x.key)).Seal(block(t, x.plain)); got != block(t, x.sealed) {
			t.Errorf("%s: %s: %x, want %s", x.key, x.plain, got, x.sealed)
		}
	}
}

// TestSeal: P8.2, blocks of one byte, of one bit, and by chance, under keys of each of these kinds.
func TestSeal(t *testing.T) {
	r := rand.New(rand.NewSource(82))
	keys := append(edges(), some(r), some(r))
	plain := append(edges(), some(r), some(r))
	for _, key := range keys {
		c := New(key)
		for _, b := range plain {
			if got, want := c.Seal(b), theSealed(t, key, b); got != want {
				t.Fatalf("%x: %x: %x, want %x", key, b, got, want)
			}
		}
	}
	for range 2000 {
		key, b := some(r), some(r)
		if got, want := New(key).Seal(b), theSealed(t, key, b); got != want {
			t.Fatalf("%x: %x: %x, want %x", key, b, got, want)
		}
	}
}

// TestEachByte: P8.2, every byte at every place, of the block and of the key.
func TestEachByte(t *testing.T) {
	r := rand.New(rand.NewSource(83))
	key, plain := some(r), some(r)
	c := New(key)
	for place := range 16 {
		for i := range 256 {
			b, k := plain, key
			b[place], k[place] = byte(i), byte(i)
			if got, want := c.Seal(b), theSealed(t, key, b); got != want {
				t.Fatalf("%x: %x: %x, want %x", key, b, got, want)
			}
			if got, want := New(k).Seal(plain), theSealed(t, k, plain); got != want {
				t.Fatalf("%x: %x: %x, want %x", k, plain, got, want)
			}
		}
	}
}

// TestChain: P8.2, what was sealed is sealed again, many times, and then the key is another one.
func TestChain(t *testing.T) {
	var key, b, want [16]byte
	for range 50 {
		c, theirs := New(key), library(t, key)
		for range 200 {
			b = c.Seal(b)
			theirs.Encrypt(want[:], want[:])
		}
		if b != want {
			t.Fatalf("%x: %x, want %x", key, b, want)
		}
		for i := range key {
			key[i] ^= b[i]
		}
	}
}

// TestApart: P8.3, under one key no two of many blocks are sealed to one: the library opens each as it was.
func TestApart(t *testing.T) {
	r := rand.New(rand.NewSource(84))
	for _, key := range [][16]byte{alike(0), alike(255), some(r)} {
		c, theirs := New(key), library(t, key)
		l := edges()[:6]
		for i := range 1 << 16 {
			l = append(l, [16]byte{2, 4: byte(i), 11: byte(i >> 8)})
		}
		seen := map[[16]byte][16]byte{}
		for _, b := range l {
			sealed := c.Seal(b)
			if first, ok := seen[sealed]; ok {
				t.Fatalf("%x: %x and %x: both %x", key, first, b, sealed)
			}
			seen[sealed] = b
			var back [16]byte
			theirs.Decrypt(back[:], sealed[:])
			if back != b {
				t.Fatalf("%x: %x: opened as %x", key, b, back)
			}
		}
	}
}

// TestNil: P8.2 and R4, a nil cipher answers zero, whatever the block.
func TestNil(t *testing.T) {
	var c *Cipher
	for _, b := range edges() {
		if got := c.Seal(b); got != ([16]byte{}) {
			t.Errorf("%x: %x", b, got)
		}
	}
}

// TestHandedIn: R3 and R5, keys and blocks are not changed, nor does what becomes of them later, or of round keys that were answered, change an answer; ciphers know nothing of each other.
func TestHandedIn(t *testing.T) {
	r := rand.New(rand.NewSource(85))
	key, other, b := some(r), some(r), some(r)
	wasKey, wasBlock := key, b
	first, keys := New(key), Keys(key)
	second := New(other)
	want, otherWant := theSealed(t, key, b), theSealed(t, other, b)
	for i := range 3 {
		if got := first.Seal(b); got != want {
			t.Errorf("%d: %x, want %x", i, got, want)
		}
		if got := second.Seal(b); got != otherWant {
			t.Errorf("%d, the other key: %x, want %x", i, got, otherWant)
		}
		if key != wasKey && i == 0 || b != wasBlock {
			t.Errorf("%d: what was handed in has changed", i)
		}
		clear(key[:])
		clear(keys[i][:])
	}
	if got := Keys(wasKey); got != theKeys(t, wasKey) {
		t.Errorf("%x: other round keys, once the first ones were written into", got)
	}
}
