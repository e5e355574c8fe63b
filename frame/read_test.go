package frame

import (
	"bytes"
	"math/rand"
	"strings"
	"testing"

	"hostler/api"
	"hostler/varint"
)

// longer has bytes that begin with a frame, but are not the bytes that it has.
func longer() []told {
	return []told{
		{api.Frame{Kind: api.FrStream, Id: 4, Off: 2, Data: []byte{0x78, 0x79}}, "0c 04 02 78 79"},
		{api.Frame{Kind: api.FrStream, Id: 4, Off: 2, Data: []byte{0x78, 0x79}, Fin: true}, "0d 04 02 78 79"},
		{api.Frame{Kind: api.FrStream, Id: 4, Data: []byte{0x78, 0x79}}, "08 04 78 79"},
		{api.Frame{Kind: api.FrStream, Id: 4, Data: []byte{0x78, 0x79}, Fin: true}, "09 04 78 79"},
		{api.Frame{Kind: api.FrStream, Id: 4}, "08 04"},
		{api.Frame{Kind: api.FrStream, Id: 4, Fin: true}, "09 04"},
		{api.Frame{Kind: api.FrStream, Id: 4, Off: 7}, "0c 04 07"},
		{api.Frame{Kind: api.FrStream, Id: 4}, "0c 04 00"},
		{api.Frame{Kind: api.FrStream, Id: 4, Data: []byte{9}}, "0c 04 00 09"},
		{api.Frame{Kind: api.FrStream, Id: 4, Data: []byte{9}}, "0e 04 00 01 09"},
		{api.Frame{Kind: api.FrStream, Id: 4, Data: []byte{9}, Fin: true}, "0f 04 00 01 09"},
		{api.Frame{Kind: api.FrStream, Id: 4, Data: []byte{9}}, "0e 8000 0004 c000 0000 0000 0000 4001 09"},
		{api.Frame{Kind: api.FrStream, Off: api.MaxVar - 1, Data: []byte{9}}, "0c 00 ff ff ff ff ff ff ff fe 09"},
		{api.Frame{Kind: api.FrCrypto, Off: 1, Data: []byte{7}}, "06 4001 8000 0001 07"},
		{api.Frame{Kind: api.FrToken, Data: []byte{7}}, "07 c000 0000 0000 0001 07"},
		{api.Frame{Kind: api.FrAck, Delay: 5, Acks: []api.Range{{From: 3, To: 7}, {From: 8, To: 11}}}, "02 400a 4005 4001 8000 0002 4000 4003"},
		{api.Frame{Kind: api.FrAckEcn, Delay: 5, Acks: []api.Range{{From: 3, To: 7}}, Ecn: [3]uint64{1, 2, 3}}, "03 4006 4005 4000 4003 4001 4002 8000 0003"},
		{api.Frame{Kind: api.FrReset, Id: 1, Code: 2, Max: 3}, "04 4001 4002 4003"},
		{api.Frame{Kind: api.FrMaxBidi, Max: 1}, "12 c000 0000 0000 0001"},
		{api.Frame{Kind: api.FrNewCid, Id: 1, Max: 1, Cid: []byte{8}, Token: aToken}, "18 4001 4001 01 08" + tokenText},
		{api.Frame{Kind: api.FrClose, Code: 1, Max: 2, Data: []byte{3}}, "1c 4001 4002 4001 03"},
		{api.Frame{Kind: api.FrAppClose, Code: 1, Data: []byte{3}}, "1d 4001 4001 03"},
	}
}

// wrongBytes are bytes that begin with no frame, to the base 16.
func wrongBytes() []string {
	return []string{
		"", "1f", "20", "3f", "ff", "80", "c0",
		"1f 00 00 00 00", "21 00", "30 00 00", "31 00 00",
		// A kind is one byte.
		"40 00", "40 01", "80 00 00 01", "c0 00 00 00 00 00 00 01", "40 1e", "40 08 04 01",
		// Ranges that go below 0.
		"02 01 00 00 02", "02 00 00 00 01", "02 00 00 01 00 00 00", "02 01 00 01 00 00 00", "02 02 00 01 00 01 00",
		"02 02 00 01 00 00 01", "02 0a 00 01 02 07 00", "02 0a 00 01 0a 00 00", "02 05 00 02 00 00 00 02 00",
		"02 0a 00 01 00" + mostText + "00", "02 0a 00 00" + mostText, "03 01 00 00 02 00 00 00",
		// Fewer ranges than told, and fewer Ecn.
		"02 0a 00 01 00", "02 0a 00 01 00 00", "02 0a 00" + mostText + "00 00 00 00 00", "03 01 00 00 00 00 00",
		"02 0a 00 c0 00 00 01 00 00 00 00 00 00 00", "02", "02 00", "02 00 00", "02 00 00 00",
		// Numbers that what they name may not be.
		"12 d0 00 00 00 00 00 00 01", "13 d0 00 00 00 00 00 00 01", "16 d0 00 00 00 00 00 00 01", "17 d0 00 00 00 00 00 00 01", "12" + mostText,
		"06" + mostText + "01 00", "06 ff ff ff ff ff ff ff fe 02 00 00", "0e 00" + mostText + "01 00", "0c 00" + mostText + "00", "0d 00 ff ff ff ff ff ff ff fe 00 00",
		"07 00", "07 00 01", "07 40 00",
		"18 01 02 01 09" + tokenText, "18 01 00 00" + tokenText, "18 01 00 15" + strings.Repeat("09", 21) + tokenText, "18 01 00 ff" + strings.Repeat("09", 255) + tokenText,
		// How many bytes Cid has is a byte, not a number of variable length.
		"18 01 00 40 01 09" + tokenText,
		"18 01 00 01 09 a0a1a2a3a4a5a6a7a8a9aaabacadae",
		// Cut short.
		"06 00 01", "06 00 05 01 02 03 04", "06 00" + mostText + "01", "07 02 01", "0a 04 01", "0e 04 02 02 01", "0a 04" + mostText, "0a 04 c0 00 00 01 00 00 00 01 00",
		"1a 01 02 03 04 05 06 07", "1b 01 02 03 04 05 06 07", "1a", "1b",
		"1c 00 00 01", "1c 01 06 04 77 68 79", "1d 00 01", "1d 00" + mostText + "00",
		"04 00 00", "05 00", "10", "11 00", "19", "10 40", "10 80 00 00", "10 c0 00 00 00 00 00 00",
	}
}

func empty(f api.Frame) bool { return same(f, api.Frame{}) }

// wantTaken asks Take and List of b: f, of so many bytes.
func wantTaken(t *testing.T, b []byte, f api.Frame, used int) {
	t.Helper()
	got, n, e := Take(b)
	if !same(got, f) || n != used || e != api.OK {
		t.Errorf("Take(%x) = %+v, %d, %d, want %+v, %d", b, got, n, e, f, used)
	}
	l, e := List(b[:used])
	if !sameAll(l, []api.Frame{f}) || e != api.OK {
		t.Errorf("List(%x) = %+v, %d, want %+v", b[:used], l, e, f)
	}
}

// TestTake: P2.2, frames of all kinds by their shortest bytes, whatever stands behind.
func TestTake(t *testing.T) {
	for _, x := range short() {
		b := raw(t, x.b)
		for _, behind := range [][]byte{nil, {1}, {0xff, 0xff}, {0x1f, 0, 0, 0, 0, 0, 0, 0, 0, 0, 0}} {
			wantTaken(t, append(bytes.Clone(b), behind...), x.f, len(b))
		}
	}
}

// TestTakeLonger: P2.2, streams without their length or with an Off of 0, and numbers that are longer than they must.
func TestTakeLonger(t *testing.T) {
	for _, x := range longer() {
		b := raw(t, x.b)
		wantTaken(t, b, x.f, len(b))
		if b[0]&^7 == 8 && b[0]&2 == 0 {
			// All that follows is Data.
			x.f.Data = append(bytes.Clone(x.f.Data), 1)
			if x.f.Off+uint64(len(x.f.Data)) <= api.MaxVar {
				wantTaken(t, append(b, 1), x.f, len(b)+1)
			}
			continue
		}
		wantTaken(t, append(b, 1), x.f, len(b))
	}
}

// TestTakePadding: P2.2, all bytes 0 that follow one another are one padding, of 65536 at most.
func TestTakePadding(t *testing.T) {
	for _, n := range []int{1, 2, 3, 1200, 65535, 65536} {
		f := api.Frame{Kind: api.FrPadding, N: uint64(n)}
		wantTaken(t, make([]byte, n), f, n)
		wantTaken(t, append(make([]byte, n), 1, 0, 0), f, n)
	}
	most := api.Frame{Kind: api.FrPadding, N: 65536}
	for _, n := range []int{65537, 65540, 131072, 131073} {
		b := make([]byte, n)
		if f, used, e := Take(b); !same(f, most) || used != 65536 || e != api.OK {
			t.Errorf("Take of %d bytes 0: %+v, %d, %d", n, f, used, e)
		}
		want := []api.Frame{most}
		left := uint64(n - 65536)
		if left > 65536 {
			want = append(want, most)
			left -= 65536
		}
		want = append(want, api.Frame{Kind: api.FrPadding, N: left})
		if l, e := List(b); !sameAll(l, want) || e != api.OK {
			t.Errorf("List of %d bytes 0: %+v, %d", n, l, e)
		}
	}
}

// TestTakeWrong: P2.2, ErrArg, a zero frame and 0, of bytes that begin with none; none of List.
func TestTakeWrong(t *testing.T) {
	for _, text := range wrongBytes() {
		b := raw(t, text)
		if f, used, e := Take(b); !empty(f) || used != 0 || e != api.ErrArg {
			t.Errorf("Take(%s) = %+v, %d, %d, want zero, 0, ErrArg", text, f, used, e)
		}
		if l, e := List(b); len(l) != 0 || e != api.ErrArg {
			t.Errorf("List(%s) = %+v, %d, want none, ErrArg", text, l, e)
		}
		if text == "" {
			continue
		}
		if l, e := List(append([]byte{1}, b...)); len(l) != 0 || e != api.ErrArg {
			t.Errorf("List(01 %s) = %+v, %d, want none, ErrArg", text, l, e)
		}
	}
	if l, e := List(nil); len(l) != 0 || e != api.ErrArg {
		t.Errorf("List(nil) = %+v, %d", l, e)
	}
}

// TestTakeCut: P2.2, a frame that is cut short is none, but for paddings, and streams that go on to the end.
func TestTakeCut(t *testing.T) {
	for _, x := range append(short(), longer()...) {
		b := raw(t, x.b)
		if b[0] == 0 || b[0]&^7 == 8 && b[0]&2 == 0 {
			continue
		}
		for cut := range b {
			if f, used, e := Take(b[:cut]); !empty(f) || used != 0 || e != api.ErrArg {
				t.Errorf("Take(%x) = %+v, %d, %d, want zero, 0, ErrArg", b[:cut], f, used, e)
			}
		}
	}
}

// TestExamples: P2.2, the document's examples.
func TestExamples(t *testing.T) {
	for text, want := range map[string][]api.Frame{
		"00 00 01":             {{Kind: api.FrPadding, N: 2}, {Kind: api.FrPing}},
		"02 0a 05 01 02 00 03": {{Kind: api.FrAck, Delay: 5, Acks: []api.Range{{From: 3, To: 7}, {From: 8, To: 11}}}},
		"0f 04 02 01 78":       {{Kind: api.FrStream, Id: 4, Off: 2, Data: []byte("x"), Fin: true}},
		"0c 04 02 78 79":       {{Kind: api.FrStream, Id: 4, Off: 2, Data: []byte("xy")}},
	} {
		if l, e := List(raw(t, text)); !sameAll(l, want) || e != api.OK {
			t.Errorf("List(%s) = %+v, %d, want %+v", text, l, e, want)
		}
	}
	for _, text := range []string{"1f", "02 01 00 00 02", "07 00", "40 01", ""} {
		if l, e := List(raw(t, text)); len(l) != 0 || e != api.ErrArg {
			t.Errorf("List(%s) = %+v, %d, want none, ErrArg", text, l, e)
		}
	}
}

// TestTakeOwn: P2.2 and R3, frames have bytes of their own, no two share any, and b stays as it was.
func TestTakeOwn(t *testing.T) {
	for _, x := range append(short(), longer()...) {
		b := raw(t, x.b)
		f, _, _ := Take(b)
		l, _ := List(b)
		if !bytes.Equal(b, raw(t, x.b)) {
			t.Fatalf("%s became %x", x.b, b)
		}
		for i := range b {
			b[i] ^= 0xff
		}
		if !same(f, x.f) || !sameAll(l, []api.Frame{x.f}) {
			t.Errorf("%s: the answers became %+v, %+v", x.b, f, l)
		}
	}
	twin := raw(t, "06 00 02 05 06 06 00 02 07 08 18 01 00 01 09"+tokenText)
	l, e := List(twin)
	if e != api.OK || len(l) != 3 {
		t.Fatal(l, e)
	}
	_ = append(l[0].Data, 1, 1, 1, 1)
	clear(l[0].Data)
	if !bytes.Equal(l[1].Data, []byte{7, 8}) || !bytes.Equal(l[2].Cid, []byte{9}) || !bytes.Equal(twin[3:5], []byte{5, 6}) {
		t.Errorf("they share bytes: %+v, %x", l, twin)
	}
}

// wantHolds asks of any bytes what P2.2 and P2.4 promise of them.
func wantHolds(t *testing.T, b []byte) {
	t.Helper()
	l, e := List(b)
	left := b
	for i := 0; len(left) > 0; i++ {
		f, used, te := Take(left)
		if te != api.OK {
			if te != api.ErrArg || used != 0 || !empty(f) || e != api.ErrArg {
				t.Fatalf("Take(%x) = %+v, %d, %d; List of all: %d", left, f, used, te, e)
			}
			break
		}
		if used < 1 || used > len(left) || !May(f) || e == api.OK && (i >= len(l) || !same(l[i], f)) {
			t.Fatalf("Take(%x) = %+v, %d; List of all: %+v", left, f, used, l)
		}
		open := left[0]&^7 == 8 && left[0]&2 == 0
		n := Size(f)
		if open {
			n -= varint.Size(uint64(len(f.Data)))
		}
		if n > used {
			t.Fatalf("Take(%x) = %+v, of %d bytes; appended it has %d", left, f, used, n)
		}
		own, ae := Append(nil, f)
		if again, m, _ := Take(own); ae != api.OK || m != len(own) || len(own) != Size(f) || !same(again, f) {
			t.Fatalf("%+v was appended as %x, and is taken as %+v", f, own, again)
		}
		left = left[used:]
	}
	if len(left) == 0 && len(b) > 0 && e != api.OK || e != api.OK && len(l) != 0 {
		t.Fatalf("List(%x) = %+v, %d", b, l, e)
	}
}

// TestAnyShort: P2.2, P2.4 and R1, over all bytes of up to 2, and all of 3 that begin as a frame does.
func TestAnyShort(t *testing.T) {
	wantHolds(t, nil)
	for x := range 256 {
		wantHolds(t, []byte{byte(x)})
		for y := range 256 {
			wantHolds(t, []byte{byte(x), byte(y)})
			for z := range 256 {
				if x <= 0x20 && z%5 == y%5 {
					wantHolds(t, []byte{byte(x), byte(y), byte(z)})
				}
			}
		}
	}
}

// TestAnyBytes: P2.2, P2.4 and R1, over frames whose bytes are changed, cut and doubled.
func TestAnyBytes(t *testing.T) {
	r := rand.New(rand.NewSource(2))
	all := append(short(), longer()...)
	for range 60000 {
		var b []byte
		for range 1 + r.Intn(3) {
			b = append(b, raw(t, all[r.Intn(len(all))].b)...)
		}
		for range r.Intn(4) {
			b[r.Intn(len(b))] = []byte{0, 1, 2, 0x3f, 0x40, 0x80, 0xc0, 0xff, byte(r.Intn(256))}[r.Intn(9)]
		}
		wantHolds(t, b[:1+r.Intn(len(b))])
		wantHolds(t, b)
	}
}

// joined answers the frames with paddings that follow one another as one.
func joined(l []api.Frame) []api.Frame {
	var out []api.Frame
	for _, f := range l {
		if last := len(out) - 1; last >= 0 && f.Kind == api.FrPadding && out[last].Kind == api.FrPadding {
			out[last].N += f.N
			continue
		}
		out = append(out, f)
	}
	return out
}

// TestRound: P2.4, what was appended is listed as it was, paddings that follow one another as one.
func TestRound(t *testing.T) {
	r := rand.New(rand.NewSource(1))
	all := short()
	for range 20000 {
		var l []api.Frame
		for range 1 + r.Intn(8) {
			l = append(l, all[r.Intn(len(all))].f)
			if r.Intn(4) == 0 {
				l = append(l, api.Frame{Kind: api.FrPadding, N: 1 + uint64(r.Intn(9))})
			}
		}
		b, e := Append(nil, l...)
		if e != api.OK {
			t.Fatal(l, e)
		}
		if got, e := List(b); e != api.OK || !sameAll(got, joined(l)) {
			t.Fatalf("%+v is listed as %+v, %d", l, got, e)
		}
	}
}

// TestRoundAcks: P2.4, ACKs of many ranges, near and far.
func TestRoundAcks(t *testing.T) {
	r := rand.New(rand.NewSource(3))
	for range 3000 {
		f := api.Frame{Kind: api.FrAck + uint64(r.Intn(2)), Delay: uint64(r.Intn(1 << 20))}
		if f.Kind == api.FrAckEcn {
			f.Ecn = [3]uint64{uint64(r.Intn(3)), uint64(r.Intn(100)), uint64(r.Int63n(api.MaxVar))}
		}
		at := uint64(r.Intn(3))
		for range 1 + r.Intn(100) {
			to := at + 1 + uint64(r.Int63n(1<<r.Intn(50)))
			f.Acks = append(f.Acks, api.Range{From: at, To: to})
			at = to + 1 + uint64(r.Int63n(1<<r.Intn(50)))
		}
		b, e := Append(nil, f)
		if e != api.OK || len(b) != Size(f) {
			t.Fatalf("%+v: %d bytes, Size %d, %d", f, len(b), Size(f), e)
		}
		wantTaken(t, b, f, len(b))
	}
}
