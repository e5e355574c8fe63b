package kdf

import (
	"bytes"
	"crypto/hkdf"
	"crypto/hmac"
	"crypto/sha256"
	"encoding/hex"
	"math"
	"math/rand"
	"slices"
	"strings"
	"testing"

	"hostler/sha"
)

// bare is the bytes that a text tells to the base 16.
func bare(t *testing.T, s string) []byte {
	t.Helper()
	b, err := hex.DecodeString(s)
	if err != nil {
		t.Fatal(err)
	}
	return b
}

// some is bytes by chance, always the same ones.
func some(n int) []byte {
	b := make([]byte, n)
	rand.New(rand.NewSource(int64(n))).Read(b)
	return b
}

// theMac is the library's.
func theMac(key []byte, l ...[]byte) [32]byte {
	h := hmac.New(sha256.New, key)
	for _, b := range l {
		h.Write(b)
	}
	return [32]byte(h.Sum(nil))
}

// theBytes are the library's expanded bytes.
func theBytes(t *testing.T, secret [32]byte, info []byte, n int) []byte {
	t.Helper()
	b, err := hkdf.Expand(sha256.New, secret[:], string(info), n)
	if err != nil {
		t.Fatal(err)
	}
	return b
}

// labelInfo is a label's info, put together as the document's words have it.
func labelInfo(label string, context []byte, n int) []byte {
	name := []byte("tls13 " + label)
	return slices.Concat([]byte{byte(n / 256), byte(n % 256)}, []byte{byte(len(name))}, name, []byte{byte(len(context))}, context)
}

// same holds bytes against what a text tells to the base 16.
func same(t *testing.T, what string, got []byte, want string) {
	t.Helper()
	if s := hex.EncodeToString(got); s != want {
		t.Errorf("%s: %s, want %s", what, s, want)
	}
}

// TestExamples: P7.1 and P7.2, the document's examples.
func TestExamples(t *testing.T) {
	mac := Mac(bytes.Repeat([]byte{0x0b}, 20), []byte("Hi There"))
	same(t, "Mac", mac[:], "b0344c61d8db38535ca8afceaf0bf12b881dc200c9833da726e9376c2e32cff7")
	secret := Extract(bare(t, "000102030405060708090a0b0c"), bytes.Repeat([]byte{0x0b}, 22))
	same(t, "Extract", secret[:], "077709362c2e32df0ddc3f0dc47bba6390b6c73bb50f9c3122ec844ad7c2b3e5")
	got := Expand(secret, bare(t, "f0f1f2f3f4f5f6f7f8f9"), 42)
	same(t, "Expand", got, "3cb25f25faacd57a90434f64d0362f2a2d2d0a90cf1a5a4c5db02d56ecc4c5bf34007208d5b887185865")
}

// TestKnownMacs: P7.1, the MACs that the standard tells; keys that have more than 64 bytes are among them.
func TestKnownMacs(t *testing.T) {
	table := []struct{ key, text, mac string }{
		{"Jefe", "what do ya want for nothing?", "5bdcc146bf60754e6a042426089575c75a003f089d2739839dec58b964ec3843"},
		{strings.Repeat("\xaa", 20), strings.Repeat("\xdd", 50), "773ea91e36800e46854db8ebd09181a72959098b3ef8c122d9635514ced565fe"},
		{strings.Repeat("\xaa", 131), "Test Using Larger Than Block-Size Key - Hash Key First", "60e431591ee0b67f0d8a26aacbf5b77f8e0bc6213728c5140546040f0ee37f54"},
		{
			strings.Repeat("\xaa", 131),
			"This is a test using a larger than block-size key and a larger than block-size data. The key needs to be hashed before being used by the HMAC algorithm.",
			"9b09ffa71b942fcb27635fbcd5b0e944bfdc63644f0713938a7f51535c3a35e2",
		},
		{"", "", "b613679a0814d9ec772f95d778c35fc5ff1697c493715653c6c712144292c5ad"},
	}
	for _, x := range table {
		mac := Mac([]byte(x.key), []byte(x.text))
		same(t, x.text, mac[:], x.mac)
	}
}

// TestKnownBytes: P7.1 and P7.2, secrets and expanded bytes that the standard tells: more than two blocks of them, and neither salt nor info.
func TestKnownBytes(t *testing.T) {
	var ikm, salt, info []byte
	for i := range 80 {
		ikm, salt, info = append(ikm, byte(i)), append(salt, byte(0x60+i)), append(info, byte(0xb0+i))
	}
	secret := Extract(salt, ikm)
	same(t, "long", secret[:], "06a6b88c5853361a06104c9ceb35b45cef760014904671014a193f40c15fc244")
	same(t, "long", Expand(secret, info, 82), "b11e398dc80327a1c8e7f78c596a49344f012eda2d4efad8a050cc4c19afa97c"+
		"59045a99cac7827271cb41c65e590e09da3275600c2f09b8367793a9aca3db71cc30c58179ec3e87c14c01d5c1f3434f1d87")
	secret = Extract(nil, bytes.Repeat([]byte{0x0b}, 22))
	same(t, "bare", secret[:], "19ef24a32c717b167f33a91d6f648bdf96596776afdb6377ac434c1c293ccb04")
	same(t, "bare", Expand(secret, nil, 42), "8da4e775a563c18f715f802a063c5a31b8a11f5c5ee1879ec3454e5f3c738d2d9d201395faa4b61a96c8")
}

// TestKnownLabels: P7.2, what QUIC's standard tells of the keys of its first packets.
func TestKnownLabels(t *testing.T) {
	first := Extract(bare(t, "38762cf7f55934b34d179ae6a4c80cadccbb7f0a"), bare(t, "8394c8f03e515708"))
	same(t, "first", first[:], "7db5df06e7a69e432496adedb00851923595221596ae2ae9fb8115c1e9ed0a44")
	table := []struct{ label, secret, key, iv, hp string }{
		{
			"client in", "c00cf151ca5be075ed0ebfb5c80323c42d6b7db67881289af4008f1f6c357aea",
			"1f369613dd76d5467730efcbe3b1a22d", "fa044b2f42a3fd3b46fb255c", "9f50449e04a0e810283a1e9933adedd2",
		},
		{
			"server in", "3c199828fd139efd216c155ad844cc81fb82fa8d7446fa7d78be803acdda951b",
			"cf3a5331653c364c88f0f379b6067e37", "0ac1493ca1905853b0bba03e", "c206b8d9b9f0f37644430b490eeaa314",
		},
	}
	for _, x := range table {
		secret := Label(first, x.label, nil, 32)
		same(t, x.label, secret, x.secret)
		same(t, x.label, Label([32]byte(secret), "quic key", nil, 16), x.key)
		same(t, x.label, Label([32]byte(secret), "quic iv", nil, 12), x.iv)
		same(t, x.label, Label([32]byte(secret), "quic hp", nil, 16), x.hp)
	}
}

// TestKeys: P7.1, keys of all lengths about a block's, and such as end in bytes 0.
func TestKeys(t *testing.T) {
	text := []byte("a text")
	for n := range 200 {
		for _, key := range [][]byte{some(n), make([]byte, n), bytes.Repeat([]byte{255}, n)} {
			if got, want := Mac(key, text), theMac(key, text); got != want {
				t.Errorf("%x: %x, want %x", key, got, want)
			}
		}
	}
	if got, want := Mac(some(1<<20), text), theMac(some(1<<20), text); got != want {
		t.Errorf("a long key: %x, want %x", got, want)
	}
}

// TestLongKeyIsItsSum: P7.3, a key of more than 64 bytes is as its sum, one of 64 or fewer is not.
func TestLongKeyIsItsSum(t *testing.T) {
	text := []byte("a text")
	for _, n := range []int{0, 1, 31, 32, 33, 63, 64, 65, 66, 128, 1000} {
		key := some(n)
		sum := sha.Sum(key)
		if got := Mac(key, text) == Mac(sum[:], text); got != (n > 64) {
			t.Errorf("%d bytes: as its sum: %v", n, got)
		}
		if got := Extract(key, text) == Extract(sum[:], text); got != (n > 64) {
			t.Errorf("a salt of %d bytes: as its sum: %v", n, got)
		}
	}
}

// TestTexts: P7.1, the text is that of all of them, one behind the other: none, empty ones, all cuts in two, single bytes.
func TestTexts(t *testing.T) {
	for _, n := range []int{0, 1, 55, 56, 63, 64, 65, 200} {
		key, text := some(20), some(n)
		want := theMac(key, text)
		for at := range n + 1 {
			if got := Mac(key, text[:at], nil, text[at:], []byte{}); got != want {
				t.Errorf("%d bytes, cut at %d: %x, want %x", n, at, got, want)
			}
		}
		if got := Mac(key, slices.Collect(slices.Chunk(text, 1))...); got != want {
			t.Errorf("%d single bytes: %x, want %x", n, got, want)
		}
	}
	none := theMac(nil)
	for i, l := range [][][]byte{nil, {}, {nil}, {{}, nil}} {
		if got := Mac(nil, l...); got != none {
			t.Errorf("nothing, %d: %x, want %x", i, got, none)
		}
	}
	if Mac(nil, []byte("a"), []byte("b")) == Mac(nil, []byte("b"), []byte("a")) {
		t.Error("the order doesn't count")
	}
}

// TestExtract: P7.1, the salt is the key; nothing at all is a salt and a text as well.
func TestExtract(t *testing.T) {
	for _, n := range []int{0, 1, 32, 64, 65, 100} {
		for _, m := range []int{0, 1, 32, 64, 65, 100} {
			salt, ikm := some(n), some(m)
			if got, want := Extract(salt, ikm), theMac(salt, ikm); got != want {
				t.Errorf("%d and %d bytes: %x, want %x", n, m, got, want)
			}
		}
	}
	if got, want := Extract(nil, nil), theMac(nil); got != want {
		t.Errorf("nothing: %x, want %x", got, want)
	}
}

// TestExpand: P7.2, all numbers of bytes about the blocks' ends, and infos of all kinds of lengths.
func TestExpand(t *testing.T) {
	secret := [32]byte(some(32))
	lengths := []int{8128, 8129, 8159, 8160}
	for n := 1; n < 200; n++ {
		lengths = append(lengths, n)
	}
	for _, n := range lengths {
		for _, m := range []int{0, 1, 31, 32, 64, 300} {
			info := some(m)
			got, want := Expand(secret, info, n), theBytes(t, secret, info, n)
			if !bytes.Equal(got, want) {
				t.Errorf("info of %d bytes, %d: %x, want %x", m, n, got, want)
			}
		}
	}
	if !bytes.Equal(Expand([32]byte{}, nil, 32), theBytes(t, [32]byte{}, nil, 32)) {
		t.Error("a secret of bytes 0")
	}
}

// outside are numbers of bytes that are never expanded.
func outside() []int {
	return []int{0, -1, -32, -8160, math.MinInt, math.MinInt + 1, 8161, 8192, 8193, 65535, 65536, 65537, 65536 + 32, 1 << 32, 1<<32 + 1, math.MaxInt - 1, math.MaxInt}
}

// TestNone: P7.2 and R1, none unless n is from 1 to 8160.
func TestNone(t *testing.T) {
	for _, n := range outside() {
		if got := Expand([32]byte{1}, []byte("info"), n); len(got) != 0 {
			t.Errorf("Expand, %d: %d bytes", n, len(got))
		}
		if got := Label([32]byte{1}, "label", []byte("context"), n); len(got) != 0 {
			t.Errorf("Label, %d: %d bytes", n, len(got))
		}
	}
	for _, n := range []int{1, 8160} {
		if got := Expand([32]byte{1}, nil, n); len(got) != n {
			t.Errorf("Expand, %d: %d bytes", n, len(got))
		}
		if got := Label([32]byte{1}, "", nil, n); len(got) != n {
			t.Errorf("Label, %d: %d bytes", n, len(got))
		}
	}
}

// TestFewerAreTheFirst: P7.3, fewer expanded bytes are the first ones of more.
func TestFewerAreTheFirst(t *testing.T) {
	secret, info := [32]byte(some(32)), []byte("info")
	all := Expand(secret, info, 8160)
	for n := 1; n <= 8160; n += 1 + n/40 {
		if got := Expand(secret, info, n); !bytes.Equal(got, all[:n]) {
			t.Fatalf("%d bytes: %x, want %x", n, got, all[:n])
		}
	}
	// A label's info tells the number, so that its bytes are unlike.
	if bytes.Equal(Label(secret, "key", nil, 16), Label(secret, "key", nil, 17)[:16]) {
		t.Error("a label's bytes don't hang on their number")
	}
}

// TestLabel: P7.2, labels and contexts up to their limits, and numbers of bytes of which both of the info's two count.
func TestLabel(t *testing.T) {
	secret := [32]byte(some(32))
	for _, m := range []int{0, 1, 7, 248, 249} {
		for _, k := range []int{0, 1, 32, 254, 255} {
			for _, n := range []int{1, 16, 32, 33, 255, 256, 257, 4096, 8160} {
				label, context := string(some(m)), some(k)
				got, want := Label(secret, label, context, n), theBytes(t, secret, labelInfo(label, context, n), n)
				if !bytes.Equal(got, want) {
					t.Errorf("label of %d bytes, context of %d, %d: %x, want %x", m, k, n, got, want)
				}
			}
		}
	}
	if !bytes.Equal(Label(secret, "key", nil, 16), Label(secret, "key", []byte{}, 16)) {
		t.Error("no context is unlike one of no bytes")
	}
}

// TestLabelTooLong: P7.2, none where the label has more than 249 bytes or the context more than 255; it is bytes that count, not runes.
func TestLabelTooLong(t *testing.T) {
	for _, x := range []struct {
		label   string
		context []byte
	}{
		{strings.Repeat("a", 250), nil},
		{strings.Repeat("a", 256), nil},
		{strings.Repeat("a", 1<<16), nil},
		{strings.Repeat("é", 125), nil},
		{"", make([]byte, 256)},
		{"key", make([]byte, 257)},
		{strings.Repeat("a", 249), make([]byte, 256)},
		{strings.Repeat("a", 250), make([]byte, 255)},
		{strings.Repeat("a", 506), make([]byte, 512)},
	} {
		for _, n := range []int{1, 16, 8160} {
			if got := Label([32]byte{1}, x.label, x.context, n); len(got) != 0 {
				t.Errorf("label of %d bytes, context of %d, %d: %d bytes", len(x.label), len(x.context), n, len(got))
			}
		}
	}
}

// TestWhatCounts: P7.1 and P7.2, each bit of what is handed in counts.
func TestWhatCounts(t *testing.T) {
	seen := map[string]string{}
	tell := func(what string, b []byte) {
		if other, ok := seen[string(b)]; ok {
			t.Errorf("%s and %s: the same bytes", what, other)
		}
		seen[string(b)] = what
	}
	var secret [32]byte
	tell("plain", Label(secret, "key", []byte("c"), 32))
	for bit := range 256 {
		secret[bit/8] ^= 1 << (bit % 8)
		tell("bit "+string(rune('0'+bit)), Label(secret, "key", []byte("c"), 32))
		secret[bit/8] ^= 1 << (bit % 8)
	}
	tell("label", Label(secret, "kez", []byte("c"), 32))
	tell("context", Label(secret, "key", []byte("d"), 32))
	tell("label's end", Label(secret, "keyc", nil, 32))
	tell("no label", Label(secret, "", []byte("keyc"), 32))
	tell("number", Label(secret, "key", []byte("c"), 33)[:32])
	tell("bare", Expand(secret, []byte("tls13 keyc"), 32))
}

// TestHandedIn: R3 and R5, what is handed in is not changed, nor what lies behind its end, nor is it kept; the same is answered again.
func TestHandedIn(t *testing.T) {
	for _, n := range []int{0, 20, 64, 65, 130} {
		all := some(4 * n)
		was := bytes.Clone(all)
		key, l := all[:n], append(make([][]byte, 0, 8), all[n:2*n], nil, all[3*n:])
		mac, secret := Mac(key, l...), Extract(key, l[0])
		bytesOf, labelOf := Expand(mac, key, 100), Label(mac, "key", key, 100)
		if Mac(key, l...) != mac || Extract(key, l[0]) != secret {
			t.Errorf("%d bytes: another MAC", n)
		}
		if !bytes.Equal(all, was) || len(l) != 3 || l[1] != nil || len(l[0]) != n || len(l[2]) != n || l[:4][3] != nil {
			t.Errorf("%d bytes: what was handed in has changed", n)
		}
		clear(all)
		if got := Expand(mac, was[:n], 100); !bytes.Equal(got, bytesOf) {
			t.Errorf("%d bytes: %x, then %x", n, bytesOf, got)
		}
		clear(bytesOf)
		if got := Label(mac, "key", was[:n], 100); !bytes.Equal(got, labelOf) {
			t.Errorf("%d bytes: %x, then %x", n, labelOf, got)
		}
	}
}
