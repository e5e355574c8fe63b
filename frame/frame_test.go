package frame

import (
	"bytes"
	"encoding/hex"
	"math"
	"reflect"
	"slices"
	"strings"
	"testing"

	"hostler/api"
)

// told is a frame, and its bytes to the base 16.
type told struct {
	f api.Frame
	b string
}

func raw(t *testing.T, text string) []byte {
	t.Helper()
	b, err := hex.DecodeString(strings.ReplaceAll(text, " ", ""))
	if err != nil {
		t.Fatal(err)
	}
	return b
}

// same tells whether two frames are equal, none being as good as empty.
func same(a, b api.Frame) bool {
	for _, f := range []*api.Frame{&a, &b} {
		if len(f.Data) == 0 {
			f.Data = nil
		}
		if len(f.Cid) == 0 {
			f.Cid = nil
		}
		if len(f.Acks) == 0 {
			f.Acks = nil
		}
	}
	return reflect.DeepEqual(a, b)
}

func sameAll(a, b []api.Frame) bool {
	if len(a) != len(b) {
		return false
	}
	for i := range a {
		if !same(a[i], b[i]) {
			return false
		}
	}
	return true
}

func stair(from, n int) []byte {
	b := make([]byte, n)
	for i := range b {
		b[i] = byte(from + i)
	}
	return b
}

var aToken = api.Token{0xa0, 0xa1, 0xa2, 0xa3, 0xa4, 0xa5, 0xa6, 0xa7, 0xa8, 0xa9, 0xaa, 0xab, 0xac, 0xad, 0xae, 0xaf}

const (
	mostText  = "ff ff ff ff ff ff ff ff" // api.MaxVar
	tokenText = "a0a1a2a3a4a5a6a7a8a9aaabacadaeaf"
)

// short has frames of all kinds, with their shortest bytes.
func short() []told {
	return append(shortControl(), shortData()...)
}

func shortControl() []told {
	most := uint64(api.MaxVar)
	streams := uint64(1 << 60)
	return []told{
		{api.Frame{Kind: api.FrPadding, N: 1}, "00"},
		{api.Frame{Kind: api.FrPadding, N: 5}, "00 00 00 00 00"},
		{api.Frame{Kind: api.FrPing}, "01"},
		{api.Frame{Kind: api.FrAck, Delay: 5, Acks: []api.Range{{From: 3, To: 7}, {From: 8, To: 11}}}, "02 0a 05 01 02 00 03"},
		{api.Frame{Kind: api.FrAck, Acks: []api.Range{{From: 0, To: 1}}}, "02 00 00 00 00"},
		{api.Frame{Kind: api.FrAck, Acks: []api.Range{{From: 0, To: 1}, {From: 2, To: 3}, {From: 10, To: 20}}}, "02 13 00 02 09 06 00 00 00"},
		{api.Frame{Kind: api.FrAck, Delay: most, Acks: []api.Range{{From: 0, To: most + 1}}}, "02" + mostText + mostText + "00" + mostText},
		{api.Frame{Kind: api.FrAck, Delay: 64, Acks: []api.Range{{From: 0, To: 1}, {From: most, To: most + 1}}}, "02" + mostText + "4040 01 00 ff ff ff ff ff ff ff fd 00"},
		{api.Frame{Kind: api.FrAckEcn, Delay: 5, Acks: []api.Range{{From: 3, To: 7}, {From: 8, To: 11}}, Ecn: [3]uint64{1, 64, most}}, "03 0a 05 01 02 00 03 01 4040" + mostText},
		{api.Frame{Kind: api.FrAckEcn, Acks: []api.Range{{From: 7, To: 8}}}, "03 07 00 00 00 00 00 00"},
		{api.Frame{Kind: api.FrReset, Id: 8, Code: 70, Max: 3}, "04 08 4046 03"},
		{api.Frame{Kind: api.FrReset, Id: most, Code: most, Max: most}, "04" + mostText + mostText + mostText},
		{api.Frame{Kind: api.FrReset}, "04 00 00 00"},
		{api.Frame{Kind: api.FrStop, Id: 8, Code: 70}, "05 08 4046"},
		{api.Frame{Kind: api.FrStop, Id: most, Code: most}, "05" + mostText + mostText},
		{api.Frame{Kind: api.FrMaxData, Max: 16384}, "10 80 00 40 00"},
		{api.Frame{Kind: api.FrMaxData, Max: most}, "10" + mostText},
		{api.Frame{Kind: api.FrMaxStream, Id: 4, Max: 65}, "11 04 4041"},
		{api.Frame{Kind: api.FrMaxBidi, Max: 9}, "12 09"},
		{api.Frame{Kind: api.FrMaxBidi, Max: streams}, "12 d0 00 00 00 00 00 00 00"},
		{api.Frame{Kind: api.FrMaxUni, Max: 10}, "13 0a"},
		{api.Frame{Kind: api.FrMaxUni, Max: streams}, "13 d0 00 00 00 00 00 00 00"},
		{api.Frame{Kind: api.FrBlocked, Max: 11}, "14 0b"},
		{api.Frame{Kind: api.FrBlocked, Max: most}, "14" + mostText},
		{api.Frame{Kind: api.FrStreamBlocked, Id: most, Max: 2}, "15" + mostText + "02"},
		{api.Frame{Kind: api.FrBidiBlocked, Max: streams}, "16 d0 00 00 00 00 00 00 00"},
		{api.Frame{Kind: api.FrUniBlocked, Max: streams}, "17 d0 00 00 00 00 00 00 00"},
		{api.Frame{Kind: api.FrUniBlocked}, "17 00"},
		{api.Frame{Kind: api.FrDone}, "1e"},
	}
}

func shortData() []told {
	most := uint64(api.MaxVar)
	return []told{
		{api.Frame{Kind: api.FrCrypto, Off: 64, Data: []byte{7, 8, 9}}, "06 4040 03 07 08 09"},
		{api.Frame{Kind: api.FrCrypto}, "06 00 00"},
		{api.Frame{Kind: api.FrCrypto, Off: most}, "06" + mostText + "00"},
		{api.Frame{Kind: api.FrCrypto, Off: most - 2, Data: []byte{1, 2}}, "06 ff ff ff ff ff ff ff fd 02 01 02"},
		{api.Frame{Kind: api.FrToken, Data: []byte{5}}, "07 01 05"},
		{api.Frame{Kind: api.FrToken, Data: stair(0, 64)}, "07 4040" + hex.EncodeToString(stair(0, 64))},
		{api.Frame{Kind: api.FrStream}, "0a 00 00"},
		{api.Frame{Kind: api.FrStream, Id: 4, Data: []byte{0x78}}, "0a 04 01 78"},
		{api.Frame{Kind: api.FrStream, Id: 4, Fin: true}, "0b 04 00"},
		{api.Frame{Kind: api.FrStream, Id: 4, Off: 2, Data: []byte{0x78}}, "0e 04 02 01 78"},
		{api.Frame{Kind: api.FrStream, Id: 4, Off: 2, Data: []byte{0x78}, Fin: true}, "0f 04 02 01 78"},
		{api.Frame{Kind: api.FrStream, Id: most, Off: most, Fin: true}, "0f" + mostText + mostText + "00"},
		{api.Frame{Kind: api.FrStream, Id: 1, Off: most - 1, Data: []byte{3}}, "0e 01 ff ff ff ff ff ff ff fe 01 03"},
		{api.Frame{Kind: api.FrNewCid, Id: 3, Max: 2, Cid: []byte{1, 2, 3, 4}, Token: aToken}, "18 03 02 04 01 02 03 04" + tokenText},
		{api.Frame{Kind: api.FrNewCid, Id: 3, Max: 3, Cid: []byte{9}, Token: aToken}, "18 03 03 01 09" + tokenText},
		{api.Frame{Kind: api.FrNewCid, Id: most, Cid: stair(1, 20)}, "18" + mostText + "00 14" + hex.EncodeToString(stair(1, 20)) + strings.Repeat("00", 16)},
		{api.Frame{Kind: api.FrRetire, Id: 64}, "19 4040"},
		{api.Frame{Kind: api.FrRetire, Id: most}, "19" + mostText},
		{api.Frame{Kind: api.FrChallenge, Data: stair(1, 8)}, "1a 01 02 03 04 05 06 07 08"},
		{api.Frame{Kind: api.FrResponse, Data: make([]byte, 8)}, "1b 00 00 00 00 00 00 00 00"},
		{api.Frame{Kind: api.FrClose, Code: 1, Max: 6, Data: []byte("why")}, "1c 01 06 03 77 68 79"},
		{api.Frame{Kind: api.FrClose, Code: most, Max: most}, "1c" + mostText + mostText + "00"},
		{api.Frame{Kind: api.FrAppClose, Code: 300, Data: []byte("bye")}, "1d 412c 03 62 79 65"},
		{api.Frame{Kind: api.FrAppClose}, "1d 00 00"},
	}
}

// wrongFrames are frames that may not be.
func wrongFrames() map[string]api.Frame {
	over := uint64(api.MaxVar + 1)
	one := []api.Range{{From: 1, To: 2}}
	acks := func(l ...api.Range) api.Frame { return api.Frame{Kind: api.FrAck, Acks: l} }
	ecn := func(l ...api.Range) api.Frame { return api.Frame{Kind: api.FrAckEcn, Acks: l} }
	cid := func(id, prior uint64, n int) api.Frame {
		return api.Frame{Kind: api.FrNewCid, Id: id, Max: prior, Cid: make([]byte, n)}
	}
	return map[string]api.Frame{
		"kind 1f":                 {Kind: 0x1f},
		"kind 9":                  {Kind: 9, Fin: true},
		"kind a":                  {Kind: 0xa},
		"kind f":                  {Kind: 0xf},
		"kind 2^62":               {Kind: 1 << 62},
		"kind 2^64-1":             {Kind: math.MaxUint64},
		"kind 2^32+1":             {Kind: 1<<32 + 1},
		"no padding":              {Kind: api.FrPadding},
		"padding of 65537":        {Kind: api.FrPadding, N: 65537},
		"padding of 2^64-1":       {Kind: api.FrPadding, N: math.MaxUint64},
		"no range":                {Kind: api.FrAck},
		"no range, Ecn":           {Kind: api.FrAckEcn},
		"empty range":             acks(api.Range{From: 3, To: 3}),
		"empty range behind":      acks(api.Range{From: 1, To: 2}, api.Range{From: 4, To: 4}),
		"range falls":             acks(api.Range{From: 4, To: 3}),
		"range of all":            acks(api.Range{From: 0, To: math.MaxUint64}),
		"range too high":          acks(api.Range{From: 0, To: over + 1}),
		"number too high":         acks(api.Range{From: over, To: over + 1}),
		"ranges fall":             acks(api.Range{From: 5, To: 7}, api.Range{From: 1, To: 3}),
		"ranges touch":            acks(api.Range{From: 1, To: 3}, api.Range{From: 3, To: 7}),
		"ranges touch, Ecn":       ecn(api.Range{From: 1, To: 3}, api.Range{From: 3, To: 7}),
		"ranges overlap":          acks(api.Range{From: 1, To: 4}, api.Range{From: 3, To: 7}),
		"ranges twice":            acks(api.Range{From: 1, To: 4}, api.Range{From: 1, To: 4}),
		"third range falls":       acks(api.Range{From: 1, To: 4}, api.Range{From: 8, To: 9}, api.Range{From: 5, To: 6}),
		"Delay too great":         {Kind: api.FrAck, Acks: one, Delay: over},
		"first of Ecn too great":  {Kind: api.FrAckEcn, Acks: one, Ecn: [3]uint64{over, 0, 0}},
		"second of Ecn too great": {Kind: api.FrAckEcn, Acks: one, Ecn: [3]uint64{0, over, 0}},
		"third of Ecn too great":  {Kind: api.FrAckEcn, Acks: one, Ecn: [3]uint64{0, 0, over}},
		"Id too great":            {Kind: api.FrReset, Id: over},
		"Code too great":          {Kind: api.FrReset, Code: over},
		"Max too great":           {Kind: api.FrReset, Max: over},
		"Max of a limit":          {Kind: api.FrMaxData, Max: over},
		"Max of 2^64-1":           {Kind: api.FrMaxStream, Max: math.MaxUint64},
		"Id of FrRetire":          {Kind: api.FrRetire, Id: over},
		"Max of FrMaxBidi":        {Kind: api.FrMaxBidi, Max: 1<<60 + 1},
		"Max of FrMaxUni":         {Kind: api.FrMaxUni, Max: 1<<60 + 1},
		"Max of FrBidiBlocked":    {Kind: api.FrBidiBlocked, Max: 1<<60 + 1},
		"Max of FrUniBlocked":     {Kind: api.FrUniBlocked, Max: 1<<60 + 1},
		"Off too great":           {Kind: api.FrCrypto, Off: over},
		"Off and Data too great":  {Kind: api.FrCrypto, Off: api.MaxVar - 1, Data: []byte{1, 2}},
		"Off of a stream":         {Kind: api.FrStream, Off: over},
		"Off of 2^64-1":           {Kind: api.FrStream, Off: math.MaxUint64, Data: []byte{1, 2}},
		"Off, Data of a stream":   {Kind: api.FrStream, Off: api.MaxVar, Data: []byte{1}},
		"no token":                {Kind: api.FrToken},
		"an empty token":          {Kind: api.FrToken, Data: []byte{}},
		"a ledger's stream":       {Kind: api.FrStream, N: 3},
		"no connection id":        cid(1, 0, 0),
		"21 bytes of an id":       cid(1, 0, 21),
		"Max above Id":            cid(1, 2, 4),
		"challenge of 7":          {Kind: api.FrChallenge, Data: make([]byte, 7)},
		"challenge of 9":          {Kind: api.FrChallenge, Data: make([]byte, 9)},
		"challenge of none":       {Kind: api.FrChallenge},
		"response of 7":           {Kind: api.FrResponse, Data: make([]byte, 7)},
		"response of 9":           {Kind: api.FrResponse, Data: make([]byte, 9)},
	}
}

// named has, by kind, the letters of the parts that the kind's bytes name: Id, Off, Max, Code, N, Fin, Data, Cid with Token, Acks with Delay, Ecn.
var named = map[uint64]string{
	api.FrPadding: "N", api.FrPing: "", api.FrAck: "A", api.FrAckEcn: "AE", api.FrReset: "ICM", api.FrStop: "IC",
	api.FrCrypto: "OD", api.FrToken: "D", api.FrStream: "IOFD", api.FrMaxData: "M", api.FrMaxStream: "IM",
	api.FrMaxBidi: "M", api.FrMaxUni: "M", api.FrBlocked: "M", api.FrStreamBlocked: "IM", api.FrBidiBlocked: "M",
	api.FrUniBlocked: "M", api.FrNewCid: "IMT", api.FrRetire: "I", api.FrChallenge: "D", api.FrResponse: "D",
	api.FrClose: "CMD", api.FrAppClose: "CD", api.FrDone: "",
}

// touch gives a frame a part of that letter, each way that it can.
func touch(f api.Frame, letter rune) []api.Frame {
	a, b := f, f
	switch letter {
	case 'I':
		a.Id, b.Id = 1, 1<<61
	case 'O':
		a.Off, b.Off = 1, 1<<61
	case 'M':
		a.Max, b.Max = 1, 1<<59
	case 'C':
		a.Code, b.Code = 1, 1<<61
	case 'N':
		a.N, b.N = 1, 1<<61
	case 'F':
		a.Fin, b.Fin = true, true
	case 'D':
		a.Data, b.Data = []byte{0}, make([]byte, 8)
	case 'T':
		a.Cid, b.Token = []byte{0}, api.Token{15: 1}
	case 'A':
		a.Acks, b.Delay = []api.Range{{From: 0, To: 1}}, 1
	case 'E':
		a.Ecn, b.Ecn = [3]uint64{1, 0, 0}, [3]uint64{0, 0, 1}
	}
	return []api.Frame{a, b}
}

// TestMay: P2.1, frames of all kinds, at the edges.
func TestMay(t *testing.T) {
	seen := map[uint64]bool{}
	for _, x := range short() {
		seen[x.f.Kind] = true
		if !May(x.f) {
			t.Errorf("%+v may be", x.f)
		}
	}
	for kind := range named {
		if !seen[kind] {
			t.Errorf("no frame of the kind %x is tried", kind)
		}
	}
	if !May(api.Frame{Kind: api.FrPadding, N: 65536}) {
		t.Error("a padding of 65536 may be")
	}
	if !May(api.Frame{Kind: api.FrPing, Data: []byte{}, Cid: []byte{}, Acks: []api.Range{}}) {
		t.Error("a ping whose lists are empty, not nil, may be")
	}
}

// TestMayNot: P2.1, frames that may not be: May, Size, Append alone and among others.
func TestMayNot(t *testing.T) {
	ping := api.Frame{Kind: api.FrPing}
	for name, f := range wrongFrames() {
		if May(f) {
			t.Errorf("%s: may not be", name)
		}
		if n := Size(f); n != 0 {
			t.Errorf("%s: Size %d, want 0", name, n)
		}
		for _, l := range [][]api.Frame{{f}, {f, ping}, {ping, f}, {ping, f, ping}} {
			b := append(make([]byte, 0, 32), 7)
			if got, e := Append(b, l...); len(got) != 0 || e != api.ErrArg {
				t.Errorf("%s: Append %x, %d, want none, ErrArg", name, got, e)
			}
			if !bytes.Equal(b[:4], []byte{7, 0, 0, 0}) {
				t.Errorf("%s: Append wrote into b", name)
			}
		}
	}
}

// TestMayUnnamed: P2.1, what a kind's bytes do not name is zero or has nothing.
func TestMayUnnamed(t *testing.T) {
	for _, x := range short() {
		for _, letter := range "IOMCNFDTAE" {
			if strings.ContainsRune(named[x.f.Kind], letter) {
				continue
			}
			for _, f := range touch(x.f, letter) {
				if May(f) {
					t.Errorf("%+v may not be: %c is none of its parts", f, letter)
				}
			}
		}
	}
}

// TestMayNoKind: P2.1, of kinds that do not stand in the table no frame may be.
func TestMayNoKind(t *testing.T) {
	for kind := range uint64(1 << 16) {
		if _, is := named[kind]; is {
			continue
		}
		for _, f := range []api.Frame{{Kind: kind}, {Kind: kind, Id: 1, Data: []byte{1}}, {Kind: kind, N: 1}} {
			if May(f) || Size(f) != 0 {
				t.Fatalf("%+v may not be", f)
			}
		}
	}
}

// TestSize: P2.1, how many bytes a frame has.
func TestSize(t *testing.T) {
	for _, x := range short() {
		if n, want := Size(x.f), len(raw(t, x.b)); n != want {
			t.Errorf("Size(%+v) = %d, want %d", x.f, n, want)
		}
	}
	if n := Size(api.Frame{Kind: api.FrPadding, N: 65536}); n != 65536 {
		t.Errorf("Size of a padding of 65536 = %d", n)
	}
	if n := Size(api.Frame{Kind: api.FrStream, Data: make([]byte, 16384)}); n != 1+1+4+16384 {
		t.Errorf("Size of a stream with 16384 bytes = %d", n)
	}
}

// TestAppend: P2.1, the bytes of each frame, alone and behind others.
func TestAppend(t *testing.T) {
	for _, x := range short() {
		for _, ahead := range [][]byte{nil, {}, {1}, {0, 0, 0xff}} {
			want := append(bytes.Clone(ahead), raw(t, x.b)...)
			if got, e := Append(ahead, x.f); e != api.OK || !bytes.Equal(got, want) {
				t.Errorf("Append(%x, %+v) = %x, %d, want %x", ahead, x.f, got, e, want)
			}
		}
	}
	got, e := Append([]byte{1}, api.Frame{Kind: api.FrPadding, N: 65536})
	if e != api.OK || len(got) != 65537 || got[0] != 1 || bytes.Count(got, []byte{0}) != 65536 {
		t.Errorf("a padding of 65536: %d bytes, %d", len(got), e)
	}
}

// TestAppendMany: P2.1, all frames in order; of none, b.
func TestAppendMany(t *testing.T) {
	want := []byte{5}
	var l []api.Frame
	for _, x := range short() {
		l = append(l, x.f)
		want = append(want, raw(t, x.b)...)
	}
	if got, e := Append([]byte{5}, l...); e != api.OK || !bytes.Equal(got, want) {
		t.Errorf("Append of all = %x, %d, want %x", got, e, want)
	}
	for _, b := range [][]byte{nil, {}, {4, 5}} {
		if got, e := Append(b); e != api.OK || !bytes.Equal(got, b) {
			t.Errorf("Append(%x) = %x, %d", b, got, e)
		}
	}
}

// TestAppendOwn: P2.1, the answer is in bytes of its own, and what is handed in stays as it was.
func TestAppendOwn(t *testing.T) {
	for _, room := range []int{3, 200} {
		for _, x := range append(short(), told{}) {
			b := append(make([]byte, 0, room), 1, 2, 3)
			l := []api.Frame{x.f}
			if x.b == "" {
				l = nil
			}
			first, e := Append(b, l...)
			if e != api.OK {
				t.Fatal(x, e)
			}
			kept := bytes.Clone(first)
			second, _ := Append(b, api.Frame{Kind: api.FrClose, Data: stair(100, 100)})
			clear(second)
			clear(b[:cap(b)])
			clear(x.f.Data)
			clear(x.f.Cid)
			if !bytes.Equal(first, kept) {
				t.Errorf("room %d, %+v: the answer became %x, was %x", room, x.f, first, kept)
			}
		}
	}
	for i, x := range short() {
		b, _ := Append(nil, x.f)
		for j := range b {
			b[j] = 0xee
		}
		if !same(x.f, short()[i].f) {
			t.Errorf("%+v became %+v", short()[i].f, x.f)
		}
	}
}

// TestAppendKeepsRanges: P2.1, Append leaves the ranges that it is handed as they were.
func TestAppendKeepsRanges(t *testing.T) {
	f := api.Frame{Kind: api.FrAck, Acks: []api.Range{{From: 0, To: 1}, {From: 2, To: 3}, {From: 10, To: 20}}}
	if _, e := Append(nil, f); e != api.OK {
		t.Fatal(e)
	}
	if !same(f, api.Frame{Kind: api.FrAck, Acks: []api.Range{{From: 0, To: 1}, {From: 2, To: 3}, {From: 10, To: 20}}}) {
		t.Errorf("it became %+v", f)
	}
}

// TestEliciting: P2.3, one that is none of a padding, an ACK, a close.
func TestEliciting(t *testing.T) {
	quiet := []api.Frame{{Kind: api.FrPadding, N: 1}, {Kind: api.FrAck}, {Kind: api.FrAckEcn}, {Kind: api.FrClose}, {Kind: api.FrAppClose}}
	if Eliciting() || Eliciting(quiet...) {
		t.Error("none elicits there")
	}
	for _, f := range quiet {
		if Eliciting(f) {
			t.Errorf("the kind %x does not elicit", f.Kind)
		}
	}
	for kind := range named {
		is := kind == api.FrPadding || kind == api.FrAck || kind == api.FrAckEcn || kind == api.FrClose || kind == api.FrAppClose
		if Eliciting(api.Frame{Kind: kind}) == is {
			t.Errorf("the kind %x: %v", kind, !is)
		}
		for _, l := range [][]api.Frame{append([]api.Frame{{Kind: kind}}, quiet...), append(slices.Clone(quiet), api.Frame{Kind: kind})} {
			if Eliciting(l...) == is {
				t.Errorf("the kind %x among others: %v", kind, !is)
			}
		}
	}
}

// TestAllowed: P2.3, by space and kind.
func TestAllowed(t *testing.T) {
	early := map[uint64]bool{api.FrPadding: true, api.FrPing: true, api.FrAck: true, api.FrAckEcn: true, api.FrCrypto: true, api.FrClose: true}
	kinds := []uint64{1 << 8, 1<<8 + 1, 1 << 32, 1<<62 - 1, 1 << 62, 1 << 63, math.MaxUint64}
	for kind := range uint64(256) {
		kinds = append(kinds, kind)
	}
	for _, kind := range kinds {
		_, is := named[kind]
		if Allowed(api.SpApp, kind) != is {
			t.Errorf("the kind %x in SpApp: want %v", kind, is)
		}
		for _, space := range []uint8{api.SpInitial, api.SpHandshake} {
			if Allowed(space, kind) != early[kind] {
				t.Errorf("the kind %x in %d: want %v", kind, space, early[kind])
			}
		}
		for space := api.SpApp + 1; space != 0; space++ {
			if Allowed(space, kind) {
				t.Errorf("the kind %x in %d: that is no space", kind, space)
			}
		}
	}
}
