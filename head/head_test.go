package head

import (
	"bytes"
	"encoding/hex"
	"math"
	"strings"
	"testing"

	"hostler/api"
)

func raw(t *testing.T, text string) []byte {
	t.Helper()
	b, err := hex.DecodeString(strings.ReplaceAll(text, " ", ""))
	if err != nil {
		t.Fatal(err)
	}
	return b
}

func stair(from, n int) []byte {
	b := make([]byte, n)
	for i := range b {
		b[i] = byte(from + i)
	}
	return b
}

// sameHead tells whether two heads are equal, none being as good as empty.
func sameHead(a, b api.Head) bool {
	return a.Space == b.Space && bytes.Equal(a.Dst, b.Dst) && bytes.Equal(a.Src, b.Src) && bytes.Equal(a.Token, b.Token) &&
		a.Phase == b.Phase && a.Pn == b.Pn && a.PnBytes == b.PnBytes
}

func emptyHead(h api.Head) bool {
	return sameHead(h, api.Head{}) && h.Dst == nil && h.Src == nil && h.Token == nil
}

// told is a head, how many bytes its payload has, and the bytes ahead of that, to the base 16.
type told struct {
	h api.Head
	n int
	b string
}

const (
	cid20Text = "1011121314151617 18191a1b1c1d1e1f 20212223"
	src20Text = "3031323334353637 38393a3b3c3d3e3f 40414243"
)

func table() []told {
	dst, src := stair(0x10, 20), stair(0x30, 20)
	return []told{
		// The document's examples.
		{api.Head{Space: api.SpInitial, Dst: []byte{1, 2}, Pn: 2, PnBytes: 4}, 1162, "c3 00000001 02 0102 00 00 448e 00000002"},
		{api.Head{Space: api.SpApp, Dst: []byte{5}, Phase: true, Pn: 258, PnBytes: 1}, 0, "44 05 02"},
		// Numbers' bytes: the low ones, the highest first.
		{api.Head{Space: api.SpApp, Pn: 0x0123456789abcdef, PnBytes: 1}, 20, "40 ef"},
		{api.Head{Space: api.SpApp, Pn: 0x0123456789abcdef, PnBytes: 2}, 20, "41 cdef"},
		{api.Head{Space: api.SpApp, Pn: 0x0123456789abcdef, PnBytes: 3}, 20, "42 abcdef"},
		{api.Head{Space: api.SpApp, Pn: 0x0123456789abcdef, PnBytes: 4}, 20, "43 89abcdef"},
		{api.Head{Space: api.SpApp, Dst: dst, Phase: true, Pn: api.MaxVar, PnBytes: 4}, 65536, "47" + cid20Text + "ffffffff"},
		{api.Head{Space: api.SpHandshake, Pn: api.MaxVar, PnBytes: 3}, 0, "e2 00000001 00 00 03 ffffff"},
		{api.Head{Space: api.SpHandshake, Dst: dst, Src: src, Pn: 0x1234, PnBytes: 1}, 62, "e0 00000001 14" + cid20Text + "14" + src20Text + "3f 34"},
		// Lengths in the shortest, at their edges.
		{api.Head{Space: api.SpHandshake, Src: []byte{9}, Pn: 1, PnBytes: 1}, 63, "e0 00000001 00 01 09 4040 01"},
		{api.Head{Space: api.SpHandshake, Src: []byte{9}, Pn: 1, PnBytes: 2}, 61, "e1 00000001 00 01 09 3f 0001"},
		{api.Head{Space: api.SpHandshake, Src: []byte{9}, Pn: 1, PnBytes: 2}, 62, "e1 00000001 00 01 09 4040 0001"},
		{api.Head{Space: api.SpHandshake, Pn: 1, PnBytes: 1}, 16382, "e0 00000001 00 00 7fff 01"},
		{api.Head{Space: api.SpHandshake, Pn: 1, PnBytes: 1}, 16383, "e0 00000001 00 00 80004000 01"},
		{api.Head{Space: api.SpHandshake, Pn: 1, PnBytes: 4}, 65536, "e3 00000001 00 00 80010004 00000001"},
		// Tokens.
		{api.Head{Space: api.SpInitial, PnBytes: 1}, 0, "c0 00000001 00 00 00 01 00"},
		{api.Head{Space: api.SpInitial, Dst: dst, Src: src, Token: []byte{0xaa}, Pn: 255, PnBytes: 2}, 18, "c1 00000001 14" + cid20Text + "14" + src20Text + "01 aa 14 00ff"},
		{api.Head{Space: api.SpInitial, Token: stair(0, 63), Pn: 1, PnBytes: 1}, 19, "c0 00000001 00 00 3f" + hex.EncodeToString(stair(0, 63)) + "14 01"},
		{api.Head{Space: api.SpInitial, Token: stair(0, 64), Pn: 1, PnBytes: 1}, 19, "c0 00000001 00 00 4040" + hex.EncodeToString(stair(0, 64)) + "14 01"},
		{api.Head{Space: api.SpInitial, Token: stair(0, 20000), Pn: 1, PnBytes: 1}, 19, "c0 00000001 00 00 80004e20" + hex.EncodeToString(stair(0, 20000)) + "14 01"},
	}
}

// maybe are heads that may be, beside those of the table: the edges of P3.1.
func maybe() []api.Head {
	return []api.Head{
		{PnBytes: 1}, {PnBytes: 4}, {PnBytes: 1, Pn: api.MaxVar},
		{Space: api.SpHandshake, PnBytes: 1}, {Space: api.SpApp, PnBytes: 1},
		{Dst: stair(0, 20), PnBytes: 1}, {Src: stair(0, 20), PnBytes: 1},
		{Space: api.SpHandshake, Dst: stair(0, 20), Src: stair(0, 20), PnBytes: 1},
		{Space: api.SpHandshake, Dst: []byte{}, Src: []byte{}, Token: []byte{}, PnBytes: 1},
		{Space: api.SpApp, Dst: []byte{}, Src: []byte{}, Token: []byte{}, PnBytes: 1},
		{Space: api.SpApp, Dst: stair(0, 20), Phase: true, Pn: api.MaxVar, PnBytes: 4},
		{Token: stair(0, 1<<16), PnBytes: 1},
	}
}

// wrongHeads are heads that may not be, each for one thing.
func wrongHeads() []api.Head {
	return []api.Head{
		{}, {PnBytes: 5}, {PnBytes: -1}, {PnBytes: math.MinInt}, {PnBytes: math.MaxInt}, {PnBytes: 1 << 32}, {PnBytes: 1<<32 + 1},
		{Space: api.SpHandshake}, {Space: api.SpApp}, {Space: api.SpHandshake, PnBytes: 5}, {Space: api.SpApp, PnBytes: 5},
		{PnBytes: 1, Pn: api.MaxVar + 1}, {PnBytes: 4, Pn: math.MaxUint64},
		{Space: api.SpHandshake, PnBytes: 1, Pn: api.MaxVar + 1}, {Space: api.SpApp, PnBytes: 1, Pn: api.MaxVar + 1},
		{Space: 3, PnBytes: 1}, {Space: 4, PnBytes: 1}, {Space: 128, PnBytes: 1}, {Space: 255, PnBytes: 1},
		{Dst: stair(0, 21), PnBytes: 1}, {Dst: stair(0, 256), PnBytes: 1}, {Dst: stair(0, 258), PnBytes: 1},
		{Src: stair(0, 21), PnBytes: 1}, {Src: stair(0, 257), PnBytes: 1},
		{Space: api.SpHandshake, Dst: stair(0, 21), PnBytes: 1}, {Space: api.SpHandshake, Src: stair(0, 21), PnBytes: 1},
		{Space: api.SpApp, Dst: stair(0, 21), PnBytes: 1}, {Space: api.SpApp, Src: []byte{1}, PnBytes: 1},
		{Space: api.SpApp, Token: []byte{1}, PnBytes: 1}, {Space: api.SpHandshake, Token: []byte{1}, PnBytes: 1},
		{Phase: true, PnBytes: 1}, {Space: api.SpHandshake, Phase: true, PnBytes: 1},
	}
}

// TestMay: P3.1, heads that may be, and those that may not.
func TestMay(t *testing.T) {
	for _, x := range table() {
		if !May(x.h) {
			t.Errorf("May(%+v) = false", x.h)
		}
	}
	for _, h := range maybe() {
		if !May(h) {
			t.Errorf("May(%+v) = false", h)
		}
	}
	for _, h := range wrongHeads() {
		if May(h) {
			t.Errorf("May(%+v) = true", h)
		}
	}
}

// TestPut: P3.1, the bytes ahead of the payload.
func TestPut(t *testing.T) {
	for _, x := range table() {
		got, e := Put(x.h, x.n)
		if e != api.OK || !bytes.Equal(got, raw(t, x.b)) {
			t.Errorf("Put(%+v, %d) = %x, %d, want %s", x.h, x.n, got, e, x.b)
		}
	}
	for _, h := range maybe() {
		if b, e := Put(h, 0); e != api.OK || len(b) == 0 {
			t.Errorf("Put(%+v, 0) = %x, %d", h, b, e)
		}
	}
}

// TestPutWrong: P3.1, ErrArg and none, of a head that may not be, and of an n out of its bounds.
func TestPutWrong(t *testing.T) {
	for _, h := range wrongHeads() {
		for _, n := range []int{-1, 0, 100, 65536, 65537} {
			if b, e := Put(h, n); len(b) != 0 || e != api.ErrArg {
				t.Errorf("Put(%+v, %d) = %x, %d, want none, ErrArg", h, n, b, e)
			}
		}
	}
	for _, h := range maybe() {
		for _, n := range []int{-1, math.MinInt, math.MinInt32, 65537, 1 << 31, 1 << 32, math.MaxInt} {
			if b, e := Put(h, n); len(b) != 0 || e != api.ErrArg {
				t.Errorf("Put(%+v, %d) = %x, %d, want none, ErrArg", h, n, b, e)
			}
		}
		for _, n := range []int{0, 1, 65535, 65536} {
			if b, e := Put(h, n); len(b) == 0 || e != api.OK {
				t.Errorf("Put(%+v, %d) = %x, %d", h, n, b, e)
			}
		}
	}
}

// TestPutOwn: R3, Put answers bytes of its own, and changes nothing.
func TestPutOwn(t *testing.T) {
	h := api.Head{Dst: stair(1, 8), Src: stair(11, 8), Token: stair(21, 8), Pn: 7, PnBytes: 2}
	b, _ := Put(h, 50)
	kept := bytes.Clone(b)
	clear(b[:cap(b)])
	if !bytes.Equal(h.Dst, stair(1, 8)) || !bytes.Equal(h.Src, stair(11, 8)) || !bytes.Equal(h.Token, stair(21, 8)) {
		t.Errorf("the head became %+v", h)
	}
	b, _ = Put(h, 50)
	clear(h.Dst)
	clear(h.Src)
	clear(h.Token)
	if !bytes.Equal(b, kept) {
		t.Errorf("the answer became %x, was %x", b, kept)
	}
}

// TestBits: P3.1, 15 of a long packet, 31 of a short one; P3.3, of each other space as of a long one.
func TestBits(t *testing.T) {
	for space := range 256 {
		want := byte(15)
		if uint8(space) == api.SpApp {
			want = 31
		}
		if got := Bits(uint8(space)); got != want {
			t.Errorf("Bits(%d) = %d, want %d", space, got, want)
		}
	}
}

// wantBare asks Bare, over all first bytes, of a part whose own first byte is at.
func wantBare(t *testing.T, space uint8, at byte) {
	t.Helper()
	kept, zero := byte(0xf0), byte(0x0c)
	if space == api.SpApp {
		kept, zero = 0xe0, 0x18
	}
	p := Part{Space: space, Dst: stair(1, 3), Src: stair(5, 2), Token: stair(9, 4), At: 1, B: []byte{at, 1, 2}}
	number := []byte{0x81, 0x02, 0xf3, 0x04, 0x05}
	for x := range 256 {
		first := byte(x)
		want := api.Head{}
		we := api.ErrArg
		if first&kept == at&kept && first&zero == 0 {
			we = api.OK
			want = api.Head{Space: space, Dst: p.Dst, Src: p.Src, Token: p.Token, PnBytes: int(first&3) + 1}
			want.Pn = []uint64{0x81, 0x8102, 0x8102f3, 0x8102f304}[first&3]
			want.Phase = space == api.SpApp && first&4 != 0
		}
		if h, e := Bare(p, first, number); e != we || !sameHead(h, want) {
			t.Errorf("Bare(%+v, %02x) = %+v, %d, want %+v, %d", p, first, h, e, want, we)
		}
	}
}

// TestBare: P3.3, over all first bytes, of long and short packets, and of Parts that Split did not tell.
func TestBare(t *testing.T) {
	for _, at := range []byte{0xc0, 0xc1, 0xcf, 0xe0, 0xef, 0xd5, 0x40, 0x00, 0xff} {
		for _, space := range []uint8{api.SpInitial, api.SpHandshake, 3, 77, 255} {
			wantBare(t, space, at)
		}
	}
	for _, at := range []byte{0x40, 0x47, 0x5f, 0x60, 0x7f, 0xc0, 0x1f, 0xff} {
		wantBare(t, api.SpApp, at)
	}
}

// TestBareNumber: P3.3, as many bytes of number as the first byte asks for, and ErrArg if there are fewer.
func TestBareNumber(t *testing.T) {
	for _, x := range []struct {
		space uint8
		first byte
	}{{api.SpInitial, 0xc0}, {api.SpHandshake, 0xe0}, {api.SpApp, 0x40}, {api.SpApp, 0x44}} {
		for n := 1; n <= 4; n++ {
			first := x.first + byte(n-1)
			p := Part{Space: x.space, B: []byte{x.first}}
			for has := range 7 {
				number := bytes.Repeat([]byte{0xff}, has)
				h, e := Bare(p, first, number)
				if has < n {
					if e != api.ErrArg || !emptyHead(h) {
						t.Errorf("Bare(%02x, %x) = %+v, %d, want zero, ErrArg", first, number, h, e)
					}
				} else if e != api.OK || h.PnBytes != n || h.Pn != 1<<(8*n)-1 {
					t.Errorf("Bare(%02x, %x) = %+v, %d", first, number, h, e)
				}
			}
		}
	}
	if h, e := Bare(Part{B: []byte{0xc0}}, 0xc0, nil); e != api.ErrArg || !emptyHead(h) {
		t.Errorf("without a number: %+v, %d", h, e)
	}
}

// TestBareOdd: P3.3 and R1, Parts without bytes are no first byte's; At is not looked at; ids and tokens stand as they stood, also where no head may have them.
func TestBareOdd(t *testing.T) {
	number := stair(0, 4)
	for _, b := range [][]byte{nil, {}} {
		for _, first := range []byte{0, 0x40, 0xc0, 0xff} {
			for _, space := range []uint8{0, 1, 2, 3} {
				if h, e := Bare(Part{Space: space, B: b, Dst: []byte{1}}, first, number); e != api.ErrArg || !emptyHead(h) {
					t.Errorf("of no bytes: %+v, %d", h, e)
				}
			}
		}
	}
	p := Part{Space: api.SpApp, Dst: stair(0, 40), Src: stair(2, 41), Token: stair(3, 5), B: []byte{0x40}}
	for _, p.At = range []int{0, 1, -1, math.MinInt, math.MaxInt} {
		h, e := Bare(p, 0x45, number)
		want := api.Head{Space: api.SpApp, Dst: p.Dst, Src: p.Src, Token: p.Token, Phase: true, Pn: 1, PnBytes: 2}
		if e != api.OK || !sameHead(h, want) {
			t.Errorf("Bare(%+v) = %+v, %d", p, h, e)
		}
	}
}

// TestBareOwn: R3, the head has memory of its own, its lists share none, and nothing is changed.
func TestBareOwn(t *testing.T) {
	p := Part{Dst: stair(1, 4), Src: stair(11, 4), Token: stair(21, 4), At: 9, B: stair(0xc0, 30)}
	number := stair(0x31, 4)
	want := api.Head{Dst: stair(1, 4), Src: stair(11, 4), Token: stair(21, 4), Pn: 0x3132, PnBytes: 2}
	h, _ := Bare(p, 0xc1, number)
	for _, l := range [][]byte{p.Dst, p.Src, p.Token, p.B, number} {
		clear(l)
	}
	if !sameHead(h, want) {
		t.Errorf("the head became %+v", h)
	}
	p = Part{Dst: stair(1, 4), Src: stair(11, 4), Token: stair(21, 4), At: 9, B: stair(0xc0, 30)}
	h, _ = Bare(p, 0xc1, stair(0x31, 4))
	for _, l := range [][]byte{h.Dst, h.Src, h.Token} {
		clear(l[:cap(l)])
		if !bytes.Equal(p.Dst, stair(1, 4)) || !bytes.Equal(p.Src, stair(11, 4)) || !bytes.Equal(p.Token, stair(21, 4)) || !bytes.Equal(p.B, stair(0xc0, 30)) {
			t.Errorf("the part became %+v", p)
		}
	}
	h, _ = Bare(p, 0xc1, stair(0x31, 4))
	clear(h.Dst[:cap(h.Dst)])
	clear(h.Src[:cap(h.Src)])
	if !bytes.Equal(h.Token, stair(21, 4)) {
		t.Errorf("lists of the head share memory: %+v", h)
	}
}
