package key

import (
	"bytes"
	libraryAes "crypto/aes"
	"crypto/cipher"
	"encoding/binary"
	"math"
	"math/rand"
	"slices"
	"testing"

	"hostler/api"
	"hostler/head"
)

// library is the library's cipher.
func library(t *testing.T, key [16]byte) cipher.Block {
	t.Helper()
	c, err := libraryAes.NewCipher(key[:])
	if err != nil {
		t.Fatal(err)
	}
	return c
}

// theBox is what the library seals of a payload, under the nonce of a number.
func theBox(t *testing.T, k api.Keys, pn uint64, header, plain []byte) []byte {
	t.Helper()
	g, err := cipher.NewGCM(library(t, k.Key))
	if err != nil {
		t.Fatal(err)
	}
	nonce := k.Iv
	for i, b := range binary.BigEndian.AppendUint64(nil, pn) {
		nonce[4+i] ^= b
	}
	return g.Seal(nil, nonce[:], plain, header)
}

// theMask is the mask that the library seals.
func theMask(t *testing.T, k api.Keys, b []byte, at int) [16]byte {
	t.Helper()
	var m [16]byte
	library(t, k.Hp).Encrypt(m[:], b[at+4:at+20])
	return m
}

// protectedBits are those of a first byte, by the document's words.
func protectedBits(space uint8) byte {
	if space == api.SpApp {
		return 31
	}
	return 15
}

// theHeader is a header's bytes ahead of a payload that is sealed.
func theHeader(t *testing.T, h api.Head, plain []byte) []byte {
	t.Helper()
	header, e := head.Put(h, len(plain)+16)
	if e != api.OK {
		t.Fatalf("%+v, %d bytes: %d", h, len(plain), e)
	}
	return header
}

// theSealed is the packet, sealed and protected, as the document's words have it.
func theSealed(t *testing.T, k api.Keys, h api.Head, plain []byte) []byte {
	t.Helper()
	header := theHeader(t, h, plain)
	at := len(header) - h.PnBytes
	b := slices.Concat(header, theBox(t, k, h.Pn, header, plain))
	m := theMask(t, k, b, at)
	b[0] ^= m[0] & protectedBits(h.Space)
	for i := range h.PnBytes {
		b[at+i] ^= m[1+i]
	}
	return b
}

// sameHead tells whether two heads are equal, none being as good as empty.
func sameHead(a, b api.Head) bool {
	return a.Space == b.Space && bytes.Equal(a.Dst, b.Dst) && bytes.Equal(a.Src, b.Src) && bytes.Equal(a.Token, b.Token) &&
		a.Phase == b.Phase && a.Pn == b.Pn && a.PnBytes == b.PnBytes
}

// sameBare tells whether two packets without their protection are equal.
func sameBare(a, b Bare) bool {
	return sameHead(a.Head, b.Head) && bytes.Equal(a.Hdr, b.Hdr) && bytes.Equal(a.Box, b.Box)
}

// someKeys are a direction's, by chance.
func someKeys(r *rand.Rand) api.Keys {
	return Of([32]byte(some(r, 32)))
}

// aHead is one that may be, by chance.
func aHead(r *rand.Rand, space uint8, pnBytes int) api.Head {
	h := api.Head{Space: space, Dst: some(r, r.Intn(21)), Pn: r.Uint64() >> (2 + r.Intn(62)), PnBytes: pnBytes}
	switch space {
	case api.SpInitial:
		h.Src, h.Token = some(r, r.Intn(21)), some(r, r.Intn(80))
	case api.SpHandshake:
		h.Src = some(r, r.Intn(21))
	default:
		h.Phase = r.Intn(2) == 0
	}
	return h
}

// split is the first packet of a datagram, and fails unless it is the only one.
func split(t *testing.T, b []byte, h api.Head) head.Part {
	t.Helper()
	p, rest, e := head.Split(b, len(h.Dst))
	if e != api.OK || len(rest) != 0 {
		t.Fatalf("%+v, %x: %d, %x left", h, b, e, rest)
	}
	return p
}

// comesBack fails unless the packet is unmasked and opened as it was.
func comesBack(t *testing.T, k api.Keys, h api.Head, plain, packet []byte, next uint64) {
	t.Helper()
	x, e := Unmask(k, split(t, packet, h), next)
	header := theHeader(t, h, plain)
	want := Bare{Head: h, Hdr: header, Box: theBox(t, k, h.Pn, header, plain)}
	if e != api.OK || !sameBare(x, want) {
		t.Fatalf("%x: unmasked %+v, %d, want %+v", packet, x, e, want)
	}
	if got, e := Open(k, x); e != api.OK || !bytes.Equal(got, plain) {
		t.Fatalf("%x: opened %x, %d, want %x", packet, got, e, plain)
	}
}

// standard are the payload, and the packet, of QUIC's standard: a client's first one, whose payload is filled up to 1162 bytes.
const (
	clientFrames = "060040f1010000ed0303ebf8fa56f12939b9584a3896472ec40bb863cfd3e86804fe3a47f06a2b69484c000004130113020100" +
		"00c000000010000e00000b6578616d706c652e636f6dff01000100000a00080006001d0017001800100007000504616c706e00050005" +
		"0100000000003300260024001d00209370b2c9caa47fbabaf4559fedba753de171fa71f50f1ce15d43e994ec74d748002b0003020304" +
		"000d0010000e0403050306030203080408050806002d00020101001c00024001003900320408ffffffffffffffff05048000ffff0704" +
		"8000ffff0801100104800075300901100f088394c8f03e51570806048000ffff"
	clientStart = "c000000001088394c8f03e5157080000449e7b9aec34 d1b1c98dd7689fb8ec11d242b123dc9b"
	clientEnd   = "e221af44860018ab0856972e194cd934"

	serverFrames = "02000000000600405a020000560303eefce7f7b37ba1d1632e96677825ddf73988cfc79825df566dc5430b9a045a1200130100" +
		"002e00330024001d00209d3c940d89690b84d08a60993c144eca684d1081287c834d5311bcf32bb9da1a002b00020304"
	serverPacket = "cf000000010008f067a5502a4262b5004075c0d95a482cd0991cd25b0aac406a5816b6394100f37a1c69797554780bb38cc5a9" +
		"9f5ede4cf73c3ec2493a1839b3dbcba3f6ea46c5b7684df3548e7ddeb9c3bf9c73cc3f3bded74b562bfb19fb84022f8ef4cdd93795d7" +
		"7d06edbb7aaf2f58891850abbdca3d20398c276456cbc42158407dd074ee"
)

// TestStandard: P10.2 to P10.5, the first packets that QUIC's standard tells.
func TestStandard(t *testing.T) {
	client, server := Initial(raw(t, "8394c8f03e515708"))
	plain := append(raw(t, clientFrames), make([]byte, 1162)...)[:1162]
	h := api.Head{Dst: raw(t, "8394c8f03e515708"), Pn: 2, PnBytes: 4}
	b, e := Seal(client, h, plain)
	if e != api.OK || len(b) != 1200 || !bytes.HasPrefix(b, raw(t, clientStart)) || !bytes.HasSuffix(b, raw(t, clientEnd)) {
		t.Errorf("the client's: %x, %d", b, e)
	}
	comesBack(t, client, h, plain, b, 0)

	plain = raw(t, serverFrames)
	h = api.Head{Src: raw(t, "f067a5502a4262b5"), Pn: 1, PnBytes: 2}
	if b, e = Seal(server, h, plain); e != api.OK || !bytes.Equal(b, raw(t, serverPacket)) {
		t.Errorf("the server's: %x, %d", b, e)
	}
	comesBack(t, server, h, plain, raw(t, serverPacket), 0)
}

// TestSeal: P10.2 and P10.5, heads of all spaces and numbers of all lengths, and payloads from the shortest on.
func TestSeal(t *testing.T) {
	r := rand.New(rand.NewSource(103))
	for space := range uint8(3) {
		for pnBytes := 1; pnBytes <= 4; pnBytes++ {
			for n := 4 - pnBytes; n < 90; n++ {
				k, h, plain := someKeys(r), aHead(r, space, pnBytes), some(r, n)
				b, e := Seal(k, h, plain)
				if want := theSealed(t, k, h, plain); e != api.OK || !bytes.Equal(b, want) {
					t.Fatalf("%+v, %x: %x, %d, want %x", h, plain, b, e, want)
				}
				comesBack(t, k, h, plain, b, h.Pn)
			}
		}
	}
}

// TestSealNumbers: P10.2 and P10.5, each bit of the number is in the nonce, those too that the header has not.
func TestSealNumbers(t *testing.T) {
	r := rand.New(rand.NewSource(104))
	k, plain := someKeys(r), some(r, 30)
	numbers := []uint64{0, api.MaxVar, api.MaxVar - 1, 0x0123456789abcdef}
	for bit := range 62 {
		numbers = append(numbers, 1<<bit, 1<<bit-1)
	}
	for _, pn := range numbers {
		for pnBytes := 1; pnBytes <= 4; pnBytes++ {
			h := api.Head{Space: api.SpApp, Dst: some(r, 8), Pn: pn, PnBytes: pnBytes}
			b, e := Seal(k, h, plain)
			if want := theSealed(t, k, h, plain); e != api.OK || !bytes.Equal(b, want) {
				t.Fatalf("%+v: %x, %d, want %x", h, b, e, want)
			}
			comesBack(t, k, h, plain, b, pn)
		}
	}
}

// TestSealPhase: P10.2, a head's Phase goes in the packet, whatever the keys' is; and a packet hangs on Key, Iv and Hp alone.
func TestSealPhase(t *testing.T) {
	r := rand.New(rand.NewSource(105))
	k, plain := someKeys(r), some(r, 30)
	for _, phase := range []bool{false, true} {
		h := api.Head{Space: api.SpApp, Dst: some(r, 8), Phase: phase, Pn: 7, PnBytes: 2}
		want, _ := Seal(k, h, plain)
		for _, n := range []uint64{0, 1, 2, math.MaxUint64} {
			other := k
			other.Phase, other.Secret = n, [32]byte(some(r, 32))
			if b, e := Seal(other, h, plain); e != api.OK || !bytes.Equal(b, want) {
				t.Errorf("phase %d: %x, %d, want %x", n, b, e, want)
			}
			comesBack(t, other, h, plain, want, 0)
		}
	}
}

// noSeal fails unless the error is answered, and nothing else.
func noSeal(t *testing.T, h api.Head, n int, want api.Errno) {
	t.Helper()
	if b, e := Seal(api.Keys{}, h, make([]byte, n)); b != nil || e != want {
		t.Errorf("%+v, %d bytes: %d bytes, %d, want none, %d", h, n, len(b), e, want)
	}
}

// TestSealShort: P10.2, ErrArg, unless number and payload have at least 4 bytes.
func TestSealShort(t *testing.T) {
	for space := range uint8(3) {
		for pnBytes := 1; pnBytes <= 4; pnBytes++ {
			h := api.Head{Space: space, PnBytes: pnBytes}
			for n := range 6 {
				if pnBytes+n < 4 {
					noSeal(t, h, n, api.ErrArg)
				} else if b, e := Seal(api.Keys{}, h, make([]byte, n)); e != api.OK || len(b) != len(theHeader(t, h, make([]byte, n)))+n+16 {
					t.Errorf("%+v, %d bytes: %x, %d", h, n, b, e)
				}
			}
		}
	}
	if b, e := Seal(api.Keys{}, api.Head{PnBytes: 3}, nil); b != nil || e != api.ErrArg {
		t.Errorf("no payload: %x, %d", b, e)
	}
}

// TestSealLong: P10.2, ErrLong, if the payload has more than 60000 bytes, whatever the number has; ErrArg goes ahead of it.
func TestSealLong(t *testing.T) {
	r := rand.New(rand.NewSource(106))
	k := someKeys(r)
	for space := range uint8(3) {
		for _, pnBytes := range []int{1, 4} {
			h := aHead(r, space, pnBytes)
			for _, n := range []int{59999, 60000} {
				plain := some(r, n)
				b, e := Seal(k, h, plain)
				if e != api.OK || !bytes.Equal(b, theSealed(t, k, h, plain)) {
					t.Fatalf("%+v, %d bytes: %d bytes, %d", h, n, len(b), e)
				}
				comesBack(t, k, h, plain, b, h.Pn)
			}
			for _, n := range []int{60001, 60016, 65520, 65521, 65536, 65537, 1 << 20} {
				noSeal(t, h, n, api.ErrLong)
			}
		}
	}
}

// TestSealWrong: P10.2, ErrArg of a head that may not be, also where the payload is too short or too long.
func TestSealWrong(t *testing.T) {
	for _, h := range []api.Head{
		{}, {PnBytes: 5}, {PnBytes: -1}, {PnBytes: math.MinInt}, {PnBytes: math.MaxInt},
		{Space: api.SpHandshake}, {Space: api.SpApp}, {Space: api.SpApp, PnBytes: 5},
		{PnBytes: 1, Pn: api.MaxVar + 1}, {Space: api.SpApp, PnBytes: 4, Pn: math.MaxUint64},
		{Space: 3, PnBytes: 1}, {Space: 255, PnBytes: 1},
		{Dst: make([]byte, 21), PnBytes: 1}, {Src: make([]byte, 21), PnBytes: 1},
		{Space: api.SpApp, Dst: make([]byte, 21), PnBytes: 1}, {Space: api.SpApp, Src: []byte{1}, PnBytes: 1},
		{Space: api.SpApp, Token: []byte{1}, PnBytes: 1}, {Space: api.SpHandshake, Token: []byte{1}, PnBytes: 1},
		{Phase: true, PnBytes: 1}, {Space: api.SpHandshake, Phase: true, PnBytes: 1},
	} {
		for _, n := range []int{0, 3, 4, 100, 60000, 60001, 70000} {
			noSeal(t, h, n, api.ErrArg)
		}
	}
}

// theBare is a packet without its protection, as the document's words have it; false, where there is an error.
func theBare(t *testing.T, k api.Keys, p head.Part, expand func(low uint64, n int) uint64) (Bare, bool) {
	t.Helper()
	if p.At < 1 || p.At > len(p.B) || len(p.B[p.At:]) < 20 {
		return Bare{}, false
	}
	m, b := theMask(t, k, p.B, p.At), bytes.Clone(p.B)
	b[0] ^= m[0] & protectedBits(p.Space)
	reserved := byte(0b00001100)
	if p.Space == api.SpApp {
		reserved = 0b00011000
	}
	if b[0]&reserved != 0 {
		return Bare{}, false
	}
	x := Bare{Head: api.Head{Space: p.Space, Dst: p.Dst, Src: p.Src, Token: p.Token, PnBytes: int(b[0]&3) + 1}}
	x.Head.Phase = p.Space == api.SpApp && b[0]&4 != 0
	low := uint64(0)
	for i := range x.Head.PnBytes {
		b[p.At+i] ^= m[1+i]
		low = low<<8 | uint64(b[p.At+i])
	}
	x.Head.Pn = expand(low, x.Head.PnBytes)
	end := p.At + x.Head.PnBytes
	x.Hdr, x.Box = b[:end], b[end:]
	return x, true
}

// fromZero expands a number for the next one 0: it is as it stands, since none below it is nearer.
func fromZero(low uint64, _ int) uint64 { return low }

// unmasks fails unless Unmask answers what the document's words have, for the next number 0, and tells whether that is a packet.
func unmasks(t *testing.T, k api.Keys, p head.Part) bool {
	t.Helper()
	want, ok := theBare(t, k, p, fromZero)
	x, e := Unmask(k, p, 0)
	if ok != (e == api.OK) || !ok && e != api.ErrArg || !sameBare(x, want) {
		t.Fatalf("%+v: %+v, %d, want %+v, %v", p, x, e, want, ok)
	}
	if !ok && (x.Hdr != nil || x.Box != nil || x.Head.Dst != nil || x.Head.Src != nil || x.Head.Token != nil) {
		t.Fatalf("%+v: beside the error %+v", p, x)
	}
	return ok
}

// TestUnmaskAny: P10.3, any bytes, at any place, in any space; ids and tokens stand in the head as they stood in the Part, also where no head may have them.
func TestUnmaskAny(t *testing.T) {
	r := rand.New(rand.NewSource(107))
	taken, refused := 0, 0
	for range 20000 {
		b := some(r, 21+r.Intn(60))
		p := head.Part{
			Space: []uint8{0, 1, 2, 2, 3, 77, 255}[r.Intn(7)], At: 1 + r.Intn(len(b)-20), B: b,
			Dst: some(r, r.Intn(30)), Src: some(r, r.Intn(30)), Token: some(r, r.Intn(30)),
		}
		if unmasks(t, someKeys(r), p) {
			taken++
		} else {
			refused++
		}
	}
	if taken < 1000 || refused < 1000 {
		t.Errorf("%d taken, %d refused", taken, refused)
	}
}

// TestUnmaskFirst: P10.3, all first bytes: ErrArg where one of the bits that are to be 0 is set below the mask.
func TestUnmaskFirst(t *testing.T) {
	r := rand.New(rand.NewSource(108))
	k, b := someKeys(r), some(r, 40)
	for _, space := range []uint8{0, 1, 2, 3, 255} {
		taken := 0
		for first := range 256 {
			b[0] = byte(first)
			if unmasks(t, k, head.Part{Space: space, At: 1, B: b}) {
				taken++
			}
		}
		if taken != 64 {
			t.Errorf("space %d: %d first bytes are taken", space, taken)
		}
	}
}

// goodPart is a packet that is unmasked, with at bytes ahead of its number and n from there on.
func goodPart(t *testing.T, r *rand.Rand, k api.Keys, space uint8, at, n int) head.Part {
	t.Helper()
	p := head.Part{Space: space, At: at, B: some(r, at+n)}
	m := theMask(t, k, p.B, at)
	p.B[0] = p.B[0]&^protectedBits(space) | m[0]&protectedBits(space) ^ 3
	return p
}

// TestUnmaskShort: P10.3, ErrArg, if there are fewer than 20 bytes from At on.
func TestUnmaskShort(t *testing.T) {
	r := rand.New(rand.NewSource(109))
	k := someKeys(r)
	for space := range uint8(3) {
		for _, at := range []int{1, 2, 9, 30} {
			p := goodPart(t, r, k, space, at, 25)
			all := p.B
			for n := range 26 {
				p.B = all[: at+n : at+n]
				if got := unmasks(t, k, p); got != (n >= 20) {
					t.Errorf("space %d, at %d, %d bytes from there on: %v", space, at, n, got)
				}
				// Bytes behind the end don't count.
				p.B = all[:at+n]
				unmasks(t, k, p)
			}
		}
	}
}

// TestUnmaskAt: P10.3, ErrArg, if At is not a place in the packet behind its first byte.
func TestUnmaskAt(t *testing.T) {
	r := rand.New(rand.NewSource(110))
	for range 30 {
		k := someKeys(r)
		p := goodPart(t, r, k, api.SpApp, 9, 40)
		n := len(p.B)
		for at := -25; at <= n+25; at++ {
			p.At = at
			if got := unmasks(t, k, p); got && (at < 1 || at > n-20) {
				t.Errorf("at %d of %d: unmasked", at, n)
			}
		}
		for _, p.At = range []int{math.MinInt, math.MinInt + 1, math.MinInt + n, math.MinInt32, math.MaxInt32, 1 << 32, 1<<32 + 9, math.MaxInt - 20, math.MaxInt} {
			if unmasks(t, k, p) {
				t.Errorf("at %d: unmasked", p.At)
			}
		}
	}
	for _, b := range [][]byte{nil, {}, {64}} {
		for _, at := range []int{math.MinInt, -20, -1, 0, 1, 2, math.MaxInt} {
			for _, space := range []uint8{0, 1, 2, 3} {
				if unmasks(t, api.Keys{}, head.Part{Space: space, At: at, B: b}) {
					t.Errorf("%x, at %d: unmasked", b, at)
				}
			}
		}
	}
}

// TestUnmaskNext: P10.3, the number is expanded for next.
func TestUnmaskNext(t *testing.T) {
	r := rand.New(rand.NewSource(111))
	k := someKeys(r)
	for _, x := range []struct {
		pn      uint64
		pnBytes int
		next    uint64
		want    uint64
	}{
		{2821692210, 2, 2821665003, 2821692210},
		{255, 1, 0, 255}, {40, 1, 300, 296}, {0x0123456789abcdef, 1, 0, 0xef},
		{5, 1, 5, 5}, {5, 1, 132, 5}, {5, 1, 133, 261}, {5, 1, 134, 261},
		{5, 2, 32772, 5}, {5, 2, 32773, 65541}, {5, 3, 1<<23 + 4, 5}, {5, 3, 1<<23 + 5, 1<<24 + 5},
		{5, 4, 1<<31 + 4, 5}, {5, 4, 1<<31 + 5, 1<<32 + 5},
		{api.MaxVar, 1, api.MaxVar, api.MaxVar}, {api.MaxVar, 4, math.MaxUint64, api.MaxVar},
		{0, 1, math.MaxUint64, api.MaxVar - 255}, {0, 4, api.MaxVar, api.MaxVar - math.MaxUint32}, {0, 4, 0, 0},
	} {
		h := api.Head{Space: api.SpApp, Dst: some(r, 8), Pn: x.pn, PnBytes: x.pnBytes}
		plain := some(r, 30)
		b, _ := Seal(k, h, plain)
		got, e := Unmask(k, split(t, b, h), x.next)
		if e != api.OK || got.Head.Pn != x.want {
			t.Errorf("%+v: %+v, %d", x, got, e)
		}
		opened, e := Open(k, got)
		if x.pn == x.want && (e != api.OK || !bytes.Equal(opened, plain)) || x.pn != x.want && (e != api.ErrArg || opened != nil) {
			t.Errorf("%+v: opened %x, %d", x, opened, e)
		}
	}
}

// TestNear: P10.5, a packet comes back wherever next is near its number, and is not opened where another one is nearer.
func TestNear(t *testing.T) {
	r := rand.New(rand.NewSource(112))
	for range 3000 {
		pnBytes := 1 + r.Intn(4)
		k, h, plain := someKeys(r), aHead(r, uint8(r.Intn(3)), pnBytes), some(r, 4+r.Intn(40))
		b, e := Seal(k, h, plain)
		if e != api.OK {
			t.Fatal(h, e)
		}
		half := uint64(1) << (8*pnBytes - 1)
		near := uint64(r.Int63n(int64(half)))
		comesBack(t, k, h, plain, b, h.Pn+near)
		comesBack(t, k, h, plain, b, h.Pn-min(near, h.Pn))
		if h.Pn > api.MaxVar-3*half {
			continue
		}
		x, e := Unmask(k, split(t, b, h), h.Pn+half+near)
		if e != api.OK || x.Head.Pn != h.Pn+2*half {
			t.Fatalf("%+v, next %d: %+v, %d", h, h.Pn+half+near, x, e)
		}
		if opened, e := Open(k, x); e != api.ErrArg || opened != nil {
			t.Fatalf("%+v: opened %x, %d", h, opened, e)
		}
	}
}

// TestPhases: P10.5, unmasking hangs on Hp alone: keys of all phases unmask the same, but only those that sealed it open it.
func TestPhases(t *testing.T) {
	r := rand.New(rand.NewSource(113))
	first := someKeys(r)
	second := Next(first)
	phases := []api.Keys{first, second, Next(second), {Hp: first.Hp}}
	for at, k := range phases[:3] {
		h, plain := api.Head{Space: api.SpApp, Dst: some(r, 8), Phase: at == 1, Pn: 1000, PnBytes: 2}, some(r, 30)
		b, _ := Seal(k, h, plain)
		p := split(t, b, h)
		want, e := Unmask(k, p, 999)
		if e != api.OK || !sameHead(want.Head, h) {
			t.Fatalf("%+v: %+v, %d", h, want, e)
		}
		for i, other := range phases {
			x, e := Unmask(other, p, 999)
			if e != api.OK || !sameBare(x, want) {
				t.Errorf("phase %d by %d: %+v, %d, want %+v", at, i, x, e, want)
			}
			opened, e := Open(other, x)
			if i == at && (e != api.OK || !bytes.Equal(opened, plain)) || i != at && (e != api.ErrArg || opened != nil) {
				t.Errorf("phase %d by %d: opened %x, %d", at, i, opened, e)
			}
		}
	}
}

// shut fails unless the packet is not opened, and none is answered.
func shut(t *testing.T, what string, k api.Keys, x Bare) {
	t.Helper()
	if b, e := Open(k, x); b != nil || e != api.ErrArg {
		t.Errorf("%s: %+v: %x, %d", what, x, b, e)
	}
}

// TestOpen: P10.4, the payload hangs on Key, on the nonce of Iv and number, on Hdr and on Box; each bit of them counts, and nothing else does.
func TestOpen(t *testing.T) {
	r := rand.New(rand.NewSource(114))
	for _, n := range []int{0, 1, 3, 16, 37} {
		k, header, plain := someKeys(r), some(r, n), some(r, n)
		x := Bare{Head: api.Head{Pn: r.Uint64()}, Hdr: header}
		x.Box = theBox(t, k, x.Head.Pn, header, plain)
		opens := func(k api.Keys, x Bare) {
			t.Helper()
			if b, e := Open(k, x); e != api.OK || !bytes.Equal(b, plain) {
				t.Errorf("%+v: %x, %d, want %x", x, b, e, plain)
			}
		}
		opens(k, x)
		for what, b := range map[string][]byte{"key": k.Key[:], "iv": k.Iv[:], "hdr": x.Hdr, "box": x.Box} {
			for bit := range 8 * len(b) {
				b[bit/8] ^= 1 << (bit % 8)
				shut(t, what, k, x)
				b[bit/8] ^= 1 << (bit % 8)
			}
		}
		for bit := range 64 {
			other := x
			other.Head.Pn ^= 1 << bit
			shut(t, "number", k, other)
		}
		x.Head = api.Head{Space: 9, Dst: some(r, 50), Src: some(r, 3), Token: some(r, 3), Phase: true, Pn: x.Head.Pn, PnBytes: -7}
		opens(api.Keys{Key: k.Key, Iv: k.Iv, Phase: 5}, x)
	}
}

// TestOpenFew: P10.4 and R1, ErrArg of what has no tag, or is cut.
func TestOpenFew(t *testing.T) {
	r := rand.New(rand.NewSource(115))
	k, header, plain := someKeys(r), some(r, 12), some(r, 20)
	shut(t, "nothing", api.Keys{}, Bare{})
	shut(t, "nothing", k, Bare{})
	box := theBox(t, k, 5, header, plain)
	for n := range box {
		shut(t, "cut", k, Bare{Head: api.Head{Pn: 5}, Hdr: header, Box: box[:n]})
	}
	for n := range 16 {
		shut(t, "no tag", k, Bare{Head: api.Head{Pn: 5}, Hdr: header, Box: make([]byte, n)})
	}
	shut(t, "longer", k, Bare{Head: api.Head{Pn: 5}, Hdr: header, Box: append(bytes.Clone(box), 0)})
	shut(t, "no header", k, Bare{Head: api.Head{Pn: 5}, Box: box})
	shut(t, "header's bytes in the box", k, Bare{Head: api.Head{Pn: 5}, Box: slices.Concat(header, box)})
}

// TestEachBit: P10.3 to P10.5, a packet of which a bit is changed on its way is not opened.
func TestEachBit(t *testing.T) {
	r := rand.New(rand.NewSource(116))
	for space := range uint8(3) {
		k := someKeys(r)
		h := api.Head{Space: space, Dst: some(r, 8), Pn: 77, PnBytes: 2}
		b, _ := Seal(k, h, some(r, 30))
		p := split(t, b, h)
		for bit := range 8 * len(b) {
			p.B = bytes.Clone(b)
			p.B[bit/8] ^= 1 << (bit % 8)
			x, e := Unmask(k, p, 77)
			if e == api.OK {
				shut(t, "a bit", k, x)
			} else if e != api.ErrArg {
				t.Errorf("bit %d: %d", bit, e)
			}
		}
	}
}

// TestPacketsBehind: P10.5, packets of a datagram come back one behind the other.
func TestPacketsBehind(t *testing.T) {
	r := rand.New(rand.NewSource(117))
	for range 200 {
		var datagram []byte
		var heads [3]api.Head
		var keys [3]api.Keys
		var plains, packets [3][]byte
		for i := range 3 {
			keys[i], heads[i], plains[i] = someKeys(r), aHead(r, uint8(i), 1+r.Intn(4)), some(r, 3+r.Intn(100))
			b, e := Seal(keys[i], heads[i], plains[i])
			if e != api.OK {
				t.Fatal(heads[i], e)
			}
			packets[i], datagram = b, append(datagram, b...)
		}
		for i := range 3 {
			p, rest, e := head.Split(datagram, len(heads[2].Dst))
			if e != api.OK || !bytes.Equal(p.B, packets[i]) {
				t.Fatalf("packet %d: %+v, %d, want %x", i, p, e, packets[i])
			}
			comesBack(t, keys[i], heads[i], plains[i], p.B, heads[i].Pn)
			datagram = rest
		}
	}
}

// guarded is a copy of bytes with others behind its end, which nobody may change.
func guarded(b []byte) []byte {
	return append(bytes.Clone(b), bytes.Repeat([]byte{0xa5}, 40)...)[:len(b)]
}

// whole tells whether bytes are as they were, with what is behind their end.
func whole(b, was []byte) bool {
	return bytes.Equal(b[:len(b)+40], append(bytes.Clone(was), bytes.Repeat([]byte{0xa5}, 40)...))
}

// TestHandedIn: R3 and R5, what is handed in is not changed, nor what lies behind its end, nor has an answer a part of it, nor two lists of one answer of each other; the same is answered again.
func TestHandedIn(t *testing.T) {
	r := rand.New(rand.NewSource(118))
	k := someKeys(r)
	dst, src, token, plain := some(r, 8), some(r, 9), some(r, 10), some(r, 30)
	h := api.Head{Dst: guarded(dst), Src: guarded(src), Token: guarded(token), Pn: 7, PnBytes: 2}
	text := guarded(plain)
	packet, _ := Seal(k, h, text)
	sealed := bytes.Clone(packet)
	p := split(t, packet, h)
	p.Dst, p.Src, p.Token, p.B = guarded(dst), guarded(src), guarded(token), guarded(packet)
	x, e := Unmask(k, p, 7)
	y, _ := Unmask(k, p, 7)
	if e != api.OK || !sameBare(x, y) {
		t.Fatalf("%+v, %d, then %+v", x, e, y)
	}
	hdr, box := bytes.Clone(x.Hdr), bytes.Clone(x.Box)
	z := Bare{Head: x.Head, Hdr: guarded(hdr), Box: guarded(box)}
	opened, _ := Open(k, z)
	again, _ := Open(k, z)
	for _, l := range []struct{ b, was []byte }{
		{h.Dst, dst}, {h.Src, src}, {h.Token, token}, {text, plain},
		{p.Dst, dst}, {p.Src, src}, {p.Token, token}, {p.B, sealed}, {z.Hdr, hdr}, {z.Box, box},
	} {
		if !whole(l.b, l.was) {
			t.Errorf("%x became %x", l.was, l.b[:len(l.b)+40])
		}
		clear(l.b[:len(l.b)+40])
	}
	clear(opened[:cap(opened)])
	if !bytes.Equal(packet, sealed) || !bytes.Equal(again, plain) {
		t.Errorf("%x, %x: an answer has changed", packet, again)
	}
	lists := [][]byte{x.Head.Dst, x.Head.Src, x.Head.Token, x.Hdr, x.Box}
	was := [][]byte{dst, src, token, hdr, box}
	for i, l := range lists {
		if !bytes.Equal(l, was[i]) {
			t.Errorf("list %d of the answer: %x, want %x", i, l, was[i])
		}
		clear(l[:cap(l)])
	}
	if !sameBare(y, Bare{Head: api.Head{Dst: dst, Src: src, Token: token, Pn: 7, PnBytes: 2}, Hdr: hdr, Box: box}) {
		t.Errorf("another answer has changed: %+v", y)
	}
}
