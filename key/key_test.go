package key

import (
	"bytes"
	"crypto/hkdf"
	"crypto/hmac"
	"crypto/sha256"
	"encoding/hex"
	"math"
	"math/rand"
	"strings"
	"testing"

	"hostler/api"
)

// raw is the bytes that a text tells to the base 16.
func raw(t *testing.T, text string) []byte {
	t.Helper()
	b, err := hex.DecodeString(strings.ReplaceAll(text, " ", ""))
	if err != nil {
		t.Fatal(text, err)
	}
	return b
}

// some is bytes by chance.
func some(r *rand.Rand, n int) []byte {
	b := make([]byte, n)
	r.Read(b)
	return b
}

// theLabel is what the library expands of the secret by a label's info, as the document's words have it.
func theLabel(t *testing.T, secret [32]byte, label string, n int) []byte {
	t.Helper()
	info := "\x00" + string(rune(n)) + string(rune(6+len(label))) + "tls13 " + label + "\x00"
	b, err := hkdf.Expand(sha256.New, secret[:], info, n)
	if err != nil {
		t.Fatal(label, err)
	}
	return b
}

// theKeys are a secret's, as the library expands them.
func theKeys(t *testing.T, secret [32]byte) api.Keys {
	t.Helper()
	return api.Keys{
		Secret: secret,
		Key:    [16]byte(theLabel(t, secret, "quic key", 16)),
		Iv:     [12]byte(theLabel(t, secret, "quic iv", 12)),
		Hp:     [16]byte(theLabel(t, secret, "quic hp", 16)),
	}
}

// edges are secrets of which nothing is by chance, and some by chance.
func edges() [][32]byte {
	r := rand.New(rand.NewSource(101))
	l := [][32]byte{{}, [32]byte(bytes.Repeat([]byte{255}, 32)), {1}, {31: 1}, {128}, {31: 128}}
	for range 20 {
		l = append(l, [32]byte(some(r, 32)))
	}
	return l
}

// TestOf: P10.1, a secret's keys.
func TestOf(t *testing.T) {
	for _, secret := range edges() {
		if got, want := Of(secret), theKeys(t, secret); got != want {
			t.Errorf("%x: %+v, want %+v", secret, got, want)
		}
	}
	// A secret of QUIC's standard: of another cipher, but its Iv is of as many bytes.
	secret := [32]byte(raw(t, "9ac312a7f877468ebe69422748ad00a15443f18203a07d6060f688f30f21632b"))
	if got, want := Of(secret).Iv, [12]byte(raw(t, "e0459b3474bdd0e44a41c144")); got != want {
		t.Errorf("the standard's Iv: %x, want %x", got, want)
	}
}

// TestNext: P10.1, the next ones: Key and Iv of the next secret, Hp as it was, Phase one more.
func TestNext(t *testing.T) {
	for _, secret := range edges() {
		for _, hp := range [][16]byte{Of(secret).Hp, {}, {7}} {
			for _, phase := range []uint64{0, 1, 2, 255, math.MaxUint32, math.MaxUint64 - 1} {
				k := api.Keys{Secret: secret, Key: [16]byte{1}, Iv: [12]byte{2}, Hp: hp, Phase: phase}
				want := theKeys(t, [32]byte(theLabel(t, secret, "quic ku", 32)))
				want.Hp, want.Phase = hp, phase+1
				if got := Next(k); got != want {
					t.Fatalf("%+v: %+v, want %+v", k, got, want)
				}
			}
		}
	}
	secret := [32]byte(raw(t, "9ac312a7f877468ebe69422748ad00a15443f18203a07d6060f688f30f21632b"))
	want := [32]byte(raw(t, "1223504755036d556342ee9361d253421a826c9ecdf3c7148684b36b714881f9"))
	if got := Next(Of(secret)).Secret; got != want {
		t.Errorf("the standard's next secret: %x, want %x", got, want)
	}
}

// TestNextOnAndOn: P10.1, the next ones of the next ones: each phase has a secret, a Key and an Iv of its own, and all have one Hp.
func TestNextOnAndOn(t *testing.T) {
	k := Of([32]byte{5})
	hp, secret := k.Hp, k.Secret
	secrets, keys, ivs := map[[32]byte]uint64{}, map[[16]byte]uint64{}, map[[12]byte]uint64{}
	for phase := range uint64(50) {
		want := theKeys(t, secret)
		want.Hp, want.Phase = hp, phase
		if k != want {
			t.Fatalf("phase %d: %+v, want %+v", phase, k, want)
		}
		secrets[k.Secret], keys[k.Key], ivs[k.Iv] = phase, phase, phase
		k, secret = Next(k), [32]byte(theLabel(t, secret, "quic ku", 32))
	}
	if len(secrets) != 50 || len(keys) != 50 || len(ivs) != 50 {
		t.Errorf("of 50 phases: %d secrets, %d keys, %d Ivs", len(secrets), len(keys), len(ivs))
	}
}

// TestExamples: P10.1, the document's examples, and the secrets that QUIC's standard tells of them.
func TestExamples(t *testing.T) {
	client, server := Initial(raw(t, "8394c8f03e515708"))
	for _, x := range []struct {
		who                 string
		k                   api.Keys
		secret, key, iv, hp string
	}{
		{
			"client", client, "c00cf151ca5be075ed0ebfb5c80323c42d6b7db67881289af4008f1f6c357aea",
			"1f369613dd76d5467730efcbe3b1a22d", "fa044b2f42a3fd3b46fb255c", "9f50449e04a0e810283a1e9933adedd2",
		},
		{
			"server", server, "3c199828fd139efd216c155ad844cc81fb82fa8d7446fa7d78be803acdda951b",
			"cf3a5331653c364c88f0f379b6067e37", "0ac1493ca1905853b0bba03e", "c206b8d9b9f0f37644430b490eeaa314",
		},
	} {
		want := api.Keys{
			Secret: [32]byte(raw(t, x.secret)), Key: [16]byte(raw(t, x.key)), Iv: [12]byte(raw(t, x.iv)), Hp: [16]byte(raw(t, x.hp)),
		}
		if x.k != want {
			t.Errorf("%s: %+v, want %+v", x.who, x.k, want)
		}
	}
}

// ids are connection ids of all lengths that may be, about the blocks' ends, and far longer than any may be.
func ids() [][]byte {
	r := rand.New(rand.NewSource(102))
	l := [][]byte{nil, {}, make([]byte, 8)}
	for _, n := range []int{63, 64, 65, 300} {
		l = append(l, some(r, n))
	}
	for n := 1; n <= 21; n++ {
		l = append(l, some(r, n))
	}
	return l
}

// TestInitial: P10.1, the first keys of connection ids of all lengths.
func TestInitial(t *testing.T) {
	salt := raw(t, "38762cf7f55934b34d179ae6a4c80cadccbb7f0a")
	for _, cid := range ids() {
		b, err := hkdf.Extract(sha256.New, cid, salt)
		if err != nil {
			t.Fatal(err)
		}
		first := [32]byte(b)
		client, server := Initial(cid)
		if want := theKeys(t, [32]byte(theLabel(t, first, "client in", 32))); client != want {
			t.Errorf("%x: the client's %+v, want %+v", cid, client, want)
		}
		if want := theKeys(t, [32]byte(theLabel(t, first, "server in", 32))); server != want {
			t.Errorf("%x: the server's %+v, want %+v", cid, server, want)
		}
	}
}

// TestToken: P10.1, the first 16 bytes of the MAC.
func TestToken(t *testing.T) {
	for _, static := range edges() {
		for _, cid := range ids() {
			mac := hmac.New(sha256.New, static[:])
			mac.Write(cid)
			if got, want := Token(static, cid), api.Token(mac.Sum(nil)[:16]); got != want {
				t.Fatalf("%x, %x: %x, want %x", static, cid, got, want)
			}
		}
	}
}

// TestIdsKept: R3 and R5, the ids that are handed in are not changed, and the same is answered again.
func TestIdsKept(t *testing.T) {
	for _, cid := range ids() {
		was := bytes.Clone(cid)
		client, server := Initial(cid)
		token := Token([32]byte{9}, cid)
		if !bytes.Equal(cid, was) {
			t.Errorf("%x became %x", was, cid)
		}
		c, s := Initial(was)
		if c != client || s != server || Token([32]byte{9}, was) != token {
			t.Errorf("%x: another answer", cid)
		}
	}
}
