package head

import (
	"bytes"
	"math"
	"math/rand"
	"strings"
	"testing"

	"hostler/api"
)

func samePart(a, b Part) bool {
	return a.Space == b.Space && bytes.Equal(a.Dst, b.Dst) && bytes.Equal(a.Src, b.Src) && bytes.Equal(a.Token, b.Token) &&
		a.At == b.At && bytes.Equal(a.B, b.B)
}

func emptyPart(p Part) bool {
	return samePart(p, Part{}) && p.Dst == nil && p.Src == nil && p.Token == nil && p.B == nil
}

// wantSplit asks Split of b, with a few things behind it: want, whose B is b.
func wantSplit(t *testing.T, b []byte, own int, want Part) {
	t.Helper()
	want.B = b
	for _, behind := range [][]byte{nil, {0}, {0xff, 0xff}, stair(0x40, 30), bytes.Repeat([]byte{0xc0}, 100)} {
		p, rest, e := Split(append(bytes.Clone(b), behind...), own)
		if want.Space == api.SpApp {
			want.B = append(bytes.Clone(b), behind...)
			behind = nil
		}
		if e != api.OK || !samePart(p, want) || !bytes.Equal(rest, behind) {
			t.Errorf("Split(%x, %d) = %+v, %x, %d, want %+v, %x", b, own, p, rest, e, want, behind)
		}
	}
}

// wantNone asks Split of b: ErrArg, and nothing.
func wantNone(t *testing.T, b []byte, own int) {
	t.Helper()
	if p, rest, e := Split(b, own); e != api.ErrArg || !emptyPart(p) || len(rest) != 0 {
		t.Errorf("Split(%x, %d) = %+v, %x, %d, want nothing, ErrArg", b, own, p, rest, e)
	}
}

// TestSplitLong: P3.2, long packets: ids and tokens of all lengths, lengths longer than they must, whatever the protected bits are, whatever own is.
func TestSplitLong(t *testing.T) {
	body := strings.Repeat("ab", 20)
	dst, src := stair(0x10, 20), stair(0x30, 20)
	for _, x := range []struct {
		b string
		p Part
	}{
		{"c0 00000001 00 00 00 14" + body, Part{At: 9}},
		{"cf 00000001 00 00 00 14" + body, Part{At: 9}},
		{"c5 00000001 02 0102 00 00 4014" + body, Part{Dst: []byte{1, 2}, At: 12}},
		{"c0 00000001 00 01 07 00 80000014" + body, Part{Src: []byte{7}, At: 13}},
		{"c0 00000001 00 00 03 090807 c000000000000014" + body, Part{Token: []byte{9, 8, 7}, At: 19}},
		{"c0 00000001 00 00 4003 090807 14" + body, Part{Token: []byte{9, 8, 7}, At: 13}},
		{"c0 00000001 00 00 c000000000000000 14" + body, Part{At: 16}},
		{"cc 00000001 14" + cid20Text + "14" + src20Text + "02 0506 15" + body + "ee", Part{Dst: dst, Src: src, Token: []byte{5, 6}, At: 51}},
		{"e0 00000001 00 00 14" + body, Part{Space: api.SpHandshake, At: 8}},
		{"ef 00000001 02 0102 03 030405 16" + body + "0102", Part{Space: api.SpHandshake, Dst: []byte{1, 2}, Src: []byte{3, 4, 5}, At: 13}},
		{"e9 00000001 14" + cid20Text + "14" + src20Text + "14" + body, Part{Space: api.SpHandshake, Dst: dst, Src: src, At: 48}},
	} {
		for _, own := range []int{0, 1, 8, 20, 21, -1, math.MinInt, math.MaxInt} {
			wantSplit(t, raw(t, x.b), own, x.p)
		}
	}
}

// TestSplitShort: P3.2, short packets go up to the end, with as many bytes of Dst as are told, whatever the 6 lowest bits are.
func TestSplitShort(t *testing.T) {
	for own := 0; own <= 20; own++ {
		for first := 0x40; first < 0x80; first++ {
			b := append([]byte{byte(first)}, stair(3, own+20)...)
			wantSplit(t, b, own, Part{Space: api.SpApp, Dst: stair(3, own), At: 1 + own})
		}
	}
	long := append([]byte{0x41}, stair(0, 3000)...)
	wantSplit(t, long, 8, Part{Space: api.SpApp, Dst: stair(0, 8), At: 9})
}

// TestSplitShortWrong: P3.2, ErrArg of an own out of its bounds, and of fewer than 20 bytes from the number on.
func TestSplitShortWrong(t *testing.T) {
	b := append([]byte{0x40}, stair(1, 300)...)
	for _, own := range []int{-1, -20, 21, 22, 255, 256, 300, math.MinInt, math.MinInt32, math.MaxInt32, math.MaxInt, 1 << 32} {
		wantNone(t, b, own)
	}
	for own := 0; own <= 20; own++ {
		for n := range 1 + own + 20 {
			wantNone(t, b[:n], own)
		}
		if _, _, e := Split(b[:1+own+20], own); e != api.OK {
			t.Errorf("own %d: %d", own, e)
		}
	}
}

// TestSplitWrong: P3.2, ErrArg and nothing, for each reason that a long packet has.
func TestSplitWrong(t *testing.T) {
	body := strings.Repeat("ab", 60)
	for _, text := range []string{
		"",
		// The bit of 64.
		"00" + body, "3f" + body, "80 00000001 00 00 00 14" + body, "a0 00000001 00 00 14" + body, "bf" + body,
		// Versions.
		"c0 00000000 00 00 00 14" + body, "c0 00000002 00 00 00 14" + body, "c0 01000001 00 00 00 14" + body, "c0 00010001 00 00 00 14" + body,
		"c0 00000101 00 00 00 14" + body, "e0 ffffffff 00 00 14" + body, "c0 6b3343cf 00 00 00 14" + body,
		// Types.
		"d0 00000001 00 00 14" + body, "d3 00000001 00 00 00 14" + body, "f0 00000001 00 00 00 14" + body, "ff 00000001 00 00 14" + body,
		// Ids that are too long.
		"c0 00000001 15" + body + "00 00 14" + body, "c0 00000001 00 15" + strings.Repeat("01", 21) + "00 14" + body,
		"e0 00000001 15" + strings.Repeat("01", 21) + "00 14" + body, "e0 00000001 00 ff" + strings.Repeat("01", 255) + "14" + body,
		"e0 00000001 40" + strings.Repeat("00", 200), "c0 00000001 15" + strings.Repeat("00", 200),
		// Tokens that are longer than there are bytes.
		"c0 00000001 00 00 7fff" + body, "c0 00000001 00 00 ffffffffffffffff" + body, "c0 00000001 00 00 c000000100000000" + body,
		"c0 00000001 00 00 bfffffff" + body, "c0 00000001 00 00 3d" + body, "c0 00000001 00 00 3c" + body,
		// Lengths that are longer than there are bytes.
		"c0 00000001 00 00 00 3d" + body, "e0 00000001 00 00 3d" + body, "e0 00000001 00 00 ffffffffffffffff" + body,
		"e0 00000001 00 00 c000000100000014" + body, "e0 00000001 00 00 bfffffff" + body, "c0 00000001 00 00 00 c0000001000000" + body,
		// Fewer than 20 bytes from the number on.
		"c0 00000001 00 00 00 13" + body, "e0 00000001 00 00 13" + body, "e0 00000001 00 00 00" + body, "c0 00000001 00 00 00 00" + body,
		"c0 00000001 00 00 00 4013" + body, "c0 00000001 00 00 00 01" + body,
	} {
		for _, own := range []int{0, 8, -1} {
			wantNone(t, raw(t, text), own)
		}
	}
	wantNone(t, nil, 0)
}

// TestSplitCut: P3.2, a long packet that is cut short is none.
func TestSplitCut(t *testing.T) {
	for _, x := range table() {
		if x.h.Space == api.SpApp || x.n+x.h.PnBytes < 20 || x.n > 3000 {
			continue
		}
		b := append(raw(t, x.b), stair(0, x.n)...)
		for cut := range b {
			wantNone(t, b[:cut], 0)
		}
	}
}

// TestSplitExamples: P3.2, the document's examples.
func TestSplitExamples(t *testing.T) {
	b := append([]byte{0x41}, stair(7, 20)...)
	wantNone(t, b, 1)
	p, rest, e := Split(b, 0)
	if want := (Part{Space: api.SpApp, At: 1, B: b}); e != api.OK || len(rest) != 0 || !samePart(p, want) {
		t.Errorf("%+v, %x, %d", p, rest, e)
	}
	wantNone(t, append([]byte{0}, stair(7, 30)...), 0)
	wantNone(t, append(raw(t, "d3 00000001"), stair(7, 30)...), 0)
	wantNone(t, append(raw(t, "d3 00000001"), make([]byte, 30)...), 0)
}

// twoPackets are a long packet with a token and 25 bytes, and 40 bytes behind it.
func twoPackets(t *testing.T) []byte {
	b := append(raw(t, "c0 00000001 02 0102 02 0304 02 0506 19"), stair(0x50, 25)...)
	return append(b, stair(0x80, 40)...)
}

// TestSplitOwn: R3, what is answered has no part of the datagram, no two lists share memory, none has room into another, and the datagram stays as it was.
func TestSplitOwn(t *testing.T) {
	b := twoPackets(t)
	p, rest, e := Split(b, 8)
	if e != api.OK || !bytes.Equal(b, twoPackets(t)) {
		t.Fatalf("%d, the datagram became %x", e, b)
	}
	clear(b)
	want := Part{Dst: []byte{1, 2}, Src: []byte{3, 4}, Token: []byte{5, 6}, At: 15, B: twoPackets(t)[:40]}
	if !samePart(p, want) || !bytes.Equal(rest, stair(0x80, 40)) {
		t.Errorf("the answer became %+v, %x", p, rest)
	}
	b = twoPackets(t)
	for i := range 5 {
		p, rest, _ = Split(b, 8)
		l := [][]byte{p.Dst, p.Src, p.Token, p.B, rest}
		_ = append(l[i], stair(0xf0, 9)...)
		clear(l[i][:cap(l[i])])
		for j, x := range [][]byte{want.Dst, want.Src, want.Token, want.B, stair(0x80, 40)} {
			if i != j && !bytes.Equal(l[j], x) {
				t.Errorf("list %d shares with %d: %x", i, j, l[j])
			}
		}
	}
	if !bytes.Equal(b, twoPackets(t)) {
		t.Errorf("the datagram became %x", b)
	}
	short := append([]byte{0x40}, stair(0, 40)...)
	p, _, _ = Split(short, 8)
	clear(short)
	if !bytes.Equal(p.Dst, stair(0, 8)) {
		t.Errorf("Dst became %x", p.Dst)
	}
	clear(p.Dst)
	if p.B[0] != 0x40 || !bytes.Equal(p.B[1:], stair(0, 40)) {
		t.Errorf("the packet became %x", p.B)
	}
}

// anyHead answers a head that may be.
func anyHead(r *rand.Rand) api.Head {
	h := api.Head{Space: uint8(r.Intn(3)), Dst: stair(r.Intn(256), r.Intn(21)), PnBytes: 1 + r.Intn(4), Pn: uint64(r.Int63()) & api.MaxVar >> r.Intn(62)}
	switch h.Space {
	case api.SpApp:
		h.Phase = r.Intn(2) == 0
		return h
	case api.SpInitial:
		h.Token = stair(r.Intn(256), []int{0, 1, 16, 63, 64, 200, 17000}[r.Intn(7)])
	}
	h.Src = stair(r.Intn(256), r.Intn(21))
	return h
}

// wantBack asks that a packet is split and read bare as it was put; own bytes of Dst, if it is short.
func wantBack(t *testing.T, p Part, h api.Head, ahead, payload []byte) {
	t.Helper()
	want := Part{Space: h.Space, Dst: h.Dst, Src: h.Src, Token: h.Token, At: len(ahead) - h.PnBytes, B: append(bytes.Clone(ahead), payload...)}
	if !samePart(p, want) {
		t.Fatalf("%+v was split as %+v, want %+v", h, p, want)
	}
	cut := h
	cut.Pn &= 1<<(8*h.PnBytes) - 1
	if got, e := Bare(p, p.B[0], p.B[p.At:]); e != api.OK || !sameHead(got, cut) {
		t.Fatalf("%+v was read bare as %+v, %d", h, got, e)
	}
	// The protected bits are read of first alone.
	masked := p
	masked.B = bytes.Clone(p.B)
	masked.B[0] ^= Bits(h.Space)
	if got, e := Bare(masked, p.B[0], p.B[p.At:]); e != api.OK || !sameHead(got, cut) {
		t.Fatalf("%+v, protected, was read bare as %+v, %d", h, got, e)
	}
}

// TestRound: P3.4, datagrams of packets that were put are split as they were, packet by packet, and read bare.
func TestRound(t *testing.T) {
	r := rand.New(rand.NewSource(3))
	for range 4000 {
		var heads []api.Head
		var aheads, payloads [][]byte
		var b []byte
		own := 0
		for range 1 + r.Intn(5) {
			h := anyHead(r)
			payload := make([]byte, 20-h.PnBytes+[]int{0, 1, 20, 42, 43, 44, 45, 1000, 1200}[r.Intn(9)])
			r.Read(payload)
			ahead, e := Put(h, len(payload))
			if e != api.OK {
				t.Fatal(h, e)
			}
			heads, aheads, payloads = append(heads, h), append(aheads, ahead), append(payloads, payload)
			b = append(append(b, ahead...), payload...)
			if h.Space == api.SpApp {
				own = len(h.Dst)
				break
			}
		}
		for i, h := range heads {
			p, rest, e := Split(b, own)
			if e != api.OK {
				t.Fatalf("%+v: %d", h, e)
			}
			wantBack(t, p, h, aheads[i], payloads[i])
			b = rest
		}
		if len(b) != 0 {
			t.Fatalf("left: %x", b)
		}
	}
}

// TestRoundGreat: P3.4, at the greatest payload, and the least.
func TestRoundGreat(t *testing.T) {
	for _, h := range maybe() {
		for _, n := range []int{20 - h.PnBytes, 65535, 65536} {
			payload := stair(n, n)
			ahead, e := Put(h, n)
			if e != api.OK {
				t.Fatal(h, e)
			}
			p, rest, e := Split(append(bytes.Clone(ahead), payload...), len(h.Dst))
			if e != api.OK || len(rest) != 0 {
				t.Fatal(h, len(rest), e)
			}
			wantBack(t, p, h, aheadOf(p, h), payload)
			if !bytes.Equal(ahead, aheadOf(p, h)) {
				t.Errorf("%x, want %x", aheadOf(p, h), ahead)
			}
		}
	}
}

func aheadOf(p Part, h api.Head) []byte { return p.B[:p.At+h.PnBytes] }

// TestAnyBytes: P3.2, P3.3 and R1, over packets whose bytes are changed and cut: an error and nothing, or a packet whose bytes and rest are all bytes.
func TestAnyBytes(t *testing.T) {
	r := rand.New(rand.NewSource(4))
	for range 40000 {
		h := anyHead(r)
		payload := make([]byte, 20+r.Intn(60))
		ahead, _ := Put(h, len(payload))
		b := append(ahead, payload...)
		b = b[:min(len(b), 300)]
		for range r.Intn(4) {
			b[r.Intn(min(len(b), 40))] = []byte{0, 1, 0x14, 0x15, 0x3f, 0x40, 0x7f, 0x80, 0xc0, 0xff, byte(r.Intn(256))}[r.Intn(11)]
		}
		b = b[:len(b)-r.Intn(2)*r.Intn(len(b))]
		own := r.Intn(24) - 2
		p, rest, e := Split(b, own)
		if e != api.OK {
			wantNone(t, b, own)
			continue
		}
		if !bytes.Equal(append(bytes.Clone(p.B), rest...), b) || len(p.B)-p.At < 20 || p.At < 1 || len(p.Dst) > 20 || len(p.Src) > 20 {
			t.Fatalf("Split(%x, %d) = %+v, %x", b, own, p, rest)
		}
		if long := b[0] >= 0x80; long == (p.Space == api.SpApp) || b[0]&0x40 == 0 || p.Space > api.SpApp || !long && len(rest) != 0 {
			t.Fatalf("Split(%x, %d) = %+v, %x", b, own, p, rest)
		}
		if h, e := Bare(p, p.B[0], p.B[p.At:]); e == api.OK && !May(h) || e != api.OK && !emptyHead(h) {
			t.Fatalf("Bare(%+v) = %+v, %d", p, h, e)
		}
	}
}
