package param

import (
	"bytes"
	"encoding/hex"
	"math/rand"
	"slices"
	"strings"
	"testing"

	"hostler/api"
	"hostler/varint"
)

// longer has bytes that tell parameters, but are not what these are told by.
func longer() []told {
	return []told{
		// Parameters without bytes, and of 0.
		{api.Params{}, "00 00"},
		{api.Params{}, "0f 00"},
		{api.Params{}, "00 00 0f 00 01 01 00 04 01 00 05 02 4000 06 04 80000000 07 08 c000000000000000 08 01 00 09 01 00 0b 01 00"},
		// Other numbers are left out, whatever they tell.
		{api.Params{Data: 5}, "0f 00  21 02 0000  04 01 05"},
		{api.Params{}, "03 00"},
		{api.Params{}, "03 02 45ac  0a 01 03  0c 00  0d 03 ffffff  10 05 0102030405"},
		{api.Params{Uni: 7}, "4040 01 05 09 01 07"},
		{api.Params{Uni: 7}, "09 01 07" + mostText + "02 0505"},
		{api.Params{}, "4100 00 4101 00 4102 00 4104 00 410e 00 410f 00"},
		// In whatever order.
		{api.Params{Idle: 30000, Bidi: 3, Cid: []byte{0x0a, 0x0b}}, "0f 02 0a0b  08 01 03  01 04 80007530"},
		{api.Params{Orig: []byte{4}, HasToken: true, Token: aToken, CidLimit: 2}, "0e 01 02  02 10" + tokenText + "00 01 04"},
		// Numbers longer than they must be: of a parameter, of a length, of a value.
		{api.Params{Idle: 5}, "4001 01 05"},
		{api.Params{Idle: 5}, "01 4001 05"},
		{api.Params{Idle: 5}, "01 02 4005"},
		{api.Params{Idle: 5}, "01 04 80000005"},
		{api.Params{Idle: 5}, "c000000000000001 80000008 c000000000000005"},
		{api.Params{Bidi: 1}, "08 08 c000000000000001"},
		{api.Params{AckDelay: 1<<14 - 1}, "0b 04 80003fff"},
		{api.Params{CidLimit: 2}, "0e 02 4002"},
		{api.Params{Orig: []byte{6}}, "4000 4001 06"},
		{api.Params{HasToken: true}, "4002 4010" + zeroToken},
	}
}

// wrongBytes are bytes that tell no parameters that may be, to the base 16.
func wrongBytes() []string {
	id21 := strings.Repeat("09", 21)
	return []string{
		// Not such bytes: cut short, or lengths past the end.
		"00", "01", "01 04 800075", "40", "40 01", "80 00 00", "c0 00 00 00 00 00 00", "01 01", "01 40", "04 01 05 01", "04 01 05 01 02 05", "21 01", "21 02 00", "21", "00 14 0102",
		"21" + mostText, "21" + mostText + "00", "21 c0 00 00 01 00 00 00 01 00", "00 ff ff ff ff ff ff ff ff 00", "01 c000000000000009 0000000000000000",
		// Twice, next to one another or not, with the same value or not, in as many bytes or not.
		"04 01 05 04 01 05", "04 01 05 04 01 06", "04 01 05 05 01 01 04 01 05", "04 01 05 4004 01 05", "c000000000000004 01 05 04 01 05", "01 01 00 01 01 00",
		"00 00 00 00", "00 01 05 00 00", "0f 00 0f 01 01", "02 10" + tokenText + "02 10" + tokenText, "02 10" + zeroToken + "02 10" + zeroToken, "0e 01 02 0e 01 02",
		"21 00 21 00", "21 02 0000 04 01 05 21 02 0000", "03 00 4003 00", "0c 00 0c 00", "4040 00 80000040 00", mostText + "00 04 01 05" + mostText + "00",
		// Not what must stand there: a number is all of its bytes.
		"04 02 05 05", "04 00", "04 01 40", "04 03 800000", "04 03 400505", "04 05 8000000505", "04 09 c00000000000000505", "04 07 c0000000000000",
		"01 00", "05 00", "06 00", "07 00", "08 00", "09 00", "0b 00", "0e 00", "01 02 0000", "0e 02 0202", "0b 02 0101",
		// A Token is 16 bytes.
		"02 01 00", "02 00", "02 0f a0a1a2a3a4a5a6a7a8a9aaabacadae", "02 11" + tokenText + "00", "02 20" + tokenText + tokenText,
		// What may not be.
		"00 15" + id21, "0f 15" + id21, "00 4040" + strings.Repeat("00", 64),
		"08 08 d000000000000001", "09 08 d000000000000001", "08 08" + mostText, "09 08" + mostText,
		"0b 04 80004000", "0b 08" + mostText, "0b 08 c000000000004000",
		"0e 01 00", "0e 01 01", "0e 02 4000", "0e 02 4001", "0e 08 c000000000000001",
		// Behind what is right, and ahead of it.
		all().b + "ff", all().b + "00 00", all().b + "04 01 01", "0e 01 01" + "04 01 05", "0f 00 0e 01 01 21 00",
	}
}

// wantTaken asks Take of the bytes: p, and the bytes as they were.
func wantTaken(t *testing.T, b []byte, p api.Params) {
	t.Helper()
	was := bytes.Clone(b)
	got, e := Take(b)
	if e != api.OK || !same(got, p) {
		t.Errorf("Take(%x) = %+v, %d, want %+v", was, got, e, p)
	}
	if !bytes.Equal(b, was) {
		t.Errorf("Take(%x) changed its bytes: %x", was, b)
	}
}

// TestTake: P4.2, what the shortest bytes tell.
func TestTake(t *testing.T) {
	for _, x := range good() {
		wantTaken(t, raw(t, x.b), x.p)
	}
	wantTaken(t, nil, api.Params{})
	wantTaken(t, []byte{}, api.Params{})
}

// TestTakeLonger: P4.2, what other bytes tell: in other orders, longer numbers, numbers that are left out.
func TestTakeLonger(t *testing.T) {
	for _, x := range longer() {
		wantTaken(t, raw(t, x.b), x.p)
	}
}

// TestTakeOrders: P4.2, all parameters in any order.
func TestTakeOrders(t *testing.T) {
	var each [][]byte
	b := raw(t, all().b)
	for len(b) > 0 {
		_, _, used, ok := take(b)
		if !ok {
			t.Fatal(b)
		}
		each = append(each, b[:used])
		b = b[used:]
	}
	if len(each) != 12 {
		t.Fatal(len(each))
	}
	r := rand.New(rand.NewSource(4))
	for range 200 {
		r.Shuffle(len(each), func(i, j int) { each[i], each[j] = each[j], each[i] })
		wantTaken(t, slices.Concat(each...), all().p)
	}
}

// TestTakeTwice: P4.2, no number stands twice, wherever and however it does.
func TestTakeTwice(t *testing.T) {
	for id := range uint64(70) {
		value := []byte{2}
		switch id {
		case idToken:
			value = aToken[:]
		}
		one, _ := varint.Append(nil, id, uint64(len(value)))
		one = append(one, value...)
		if _, e := Take(one); e != api.OK {
			t.Errorf("Take(%x): %d", one, e)
		}
		wantWrong(t, slices.Concat(one, one))
		wantWrong(t, slices.Concat(one, []byte{0x7f, 0xff, 0}, one))
		// The second time the number is of 8 bytes.
		wantWrong(t, slices.Concat(one, []byte{0xc0, 0, 0, 0, 0, 0, 0, byte(id), byte(len(value))}, value))
	}
}

func wantWrong(t *testing.T, b []byte) {
	t.Helper()
	was := bytes.Clone(b)
	if p, e := Take(b); e != api.ErrArg || !same(p, api.Params{}) {
		t.Errorf("Take(%x) = %+v, %d, want zero, ErrArg", was, p, e)
	}
	if !bytes.Equal(b, was) {
		t.Errorf("Take(%x) changed its bytes: %x", was, b)
	}
}

// TestTakeWrong: P4.2, ErrArg, and zero.
func TestTakeWrong(t *testing.T) {
	for _, text := range wrongBytes() {
		wantWrong(t, raw(t, text))
	}
}

// TestTakeCut: P4.2, all parameters, cut anywhere but between two.
func TestTakeCut(t *testing.T) {
	b := raw(t, all().b)
	between := map[int]int{}
	for at := 0; at < len(b); {
		between[at] = 1
		_, _, used, _ := take(b[at:])
		at += used
	}
	for n := range len(b) {
		_, e := Take(b[:n:n])
		if (e == api.OK) != (between[n] == 1) {
			t.Errorf("Take of the first %d bytes: %d", n, e)
		}
	}
}

// TestTakeOwn: R3, what is taken has no part of the bytes, nor of the other list.
func TestTakeOwn(t *testing.T) {
	b := raw(t, all().b)
	p, _ := Take(b)
	clear(b)
	if !same(p, all().p) {
		t.Errorf("Take shares its bytes: %+v", p)
	}
	_ = append(p.Orig, 0xee)
	clear(p.Orig)
	if !bytes.Equal(p.Cid, all().p.Cid) {
		t.Errorf("Cid shares Orig's bytes: %x", p.Cid)
	}
}

// TestTakeAgain: R5, calls do not hang together: numbers stand twice in one call's bytes alone.
func TestTakeAgain(t *testing.T) {
	for range 3 {
		wantTaken(t, raw(t, all().b), all().p)
		wantWrong(t, []byte{4, 1, 5, 4, 1, 5})
	}
}

// aNumber answers a number of up to so many bits.
func aNumber(r *rand.Rand, bits int) uint64 {
	return r.Uint64() >> (64 - bits) >> r.Intn(bits)
}

// some answers parameters that may be.
func some(r *rand.Rand) api.Params {
	var p api.Params
	for _, n := range []*uint64{&p.Idle, &p.Data, &p.StreamOwn, &p.StreamPeer, &p.StreamUni} {
		*n = aNumber(r, 62)
	}
	p.Bidi, p.Uni, p.AckDelay, p.CidLimit = aNumber(r, 60), aNumber(r, 60), aNumber(r, 14), aNumber(r, 62)
	if p.CidLimit == 1 {
		p.CidLimit = 0
	}
	p.Orig, p.Cid = stair(r.Intn(256), r.Intn(21)), stair(r.Intn(256), r.Intn(21))
	if p.HasToken = r.Intn(2) == 0; p.HasToken {
		r.Read(p.Token[:])
	}
	return p
}

// TestThereAndBack: P4.3, what was appended is taken as it was.
func TestThereAndBack(t *testing.T) {
	r := rand.New(rand.NewSource(43))
	for range 3000 {
		p := some(r)
		b, e := Append(nil, p)
		if e != api.OK {
			t.Fatalf("Append(%+v): %d", p, e)
		}
		wantTaken(t, b, p)
	}
}

// wantBack asks that what is taken of b, if it is, may be, and is appended in at most as many bytes, and taken again as it was.
func wantBack(t *testing.T, b []byte) (taken bool) {
	t.Helper()
	p, e := Take(b)
	if e != api.OK {
		if e != api.ErrArg || !same(p, api.Params{}) {
			t.Errorf("Take(%x) = %+v, %d", b, p, e)
		}
		return false
	}
	again, e := Append(nil, p)
	if !May(p) || e != api.OK || len(again) > len(b) {
		t.Errorf("Take(%x) = %+v, which is appended as %x, %d", b, p, again, e)
	}
	wantTaken(t, again, p)
	return true
}

// TestBackAndThere: P4.3, what is taken may be, and is appended in at most as many bytes.
func TestBackAndThere(t *testing.T) {
	for _, x := range append(good(), longer()...) {
		if !wantBack(t, raw(t, x.b)) {
			t.Errorf("%s is not taken", x.b)
		}
	}
}

// TestAnyBytes: P4.3 and R1, of any bytes.
func TestAnyBytes(t *testing.T) {
	r := rand.New(rand.NewSource(44))
	taken := 0
	for range 20000 {
		b, _ := Append(nil, some(r))
		for range r.Intn(4) {
			if len(b) > 0 {
				b[r.Intn(len(b))] = byte(r.Intn(256) >> r.Intn(8))
			}
		}
		short := make([]byte, r.Intn(12))
		for i := range short {
			short[i] = byte(r.Intn(256) >> r.Intn(8))
		}
		for _, x := range [][]byte{b, b[:r.Intn(len(b)+1)], short} {
			if wantBack(t, x) {
				taken++
			}
		}
	}
	if taken < 1000 {
		t.Errorf("only %d were taken", taken)
	}
}

// TestExamples: the chapter's, as they stand there.
func TestExamples(t *testing.T) {
	b, e := Append(nil, api.Params{Idle: 30000, Bidi: 3, Cid: []byte{0x0a, 0x0b}})
	if e != api.OK || hex.EncodeToString(b) != "01048000753008"+"0103"+"0f020a0b" {
		t.Errorf("Append: %x, %d", b, e)
	}
	wantTaken(t, []byte{0x0f, 0, 0x21, 2, 0, 0, 4, 1, 5}, api.Params{Data: 5})
	for _, b := range [][]byte{{4, 1, 5, 4, 1, 5}, {4, 2, 5, 5}, {0x0e, 1, 1}, {2, 1, 0}, {0x0b, 4, 0x80, 0, 0x40, 0}} {
		wantWrong(t, b)
	}
}
