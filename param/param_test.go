package param

import (
	"bytes"
	"encoding/hex"
	"math"
	"reflect"
	"strings"
	"testing"

	"hostler/api"
)

// told is parameters, and the bytes that they are told by, to the base 16.
type told struct {
	p api.Params
	b string
}

func raw(t *testing.T, text string) []byte {
	t.Helper()
	b, err := hex.DecodeString(strings.ReplaceAll(text, " ", ""))
	if err != nil {
		t.Fatal(err)
	}
	return b
}

// same tells whether parameters are equal, none being as good as empty.
func same(a, b api.Params) bool {
	for _, p := range []*api.Params{&a, &b} {
		if len(p.Orig) == 0 {
			p.Orig = nil
		}
		if len(p.Cid) == 0 {
			p.Cid = nil
		}
	}
	return reflect.DeepEqual(a, b)
}

func stair(from, n int) []byte {
	b := make([]byte, n)
	for i := range b {
		b[i] = byte(from + i)
	}
	return b
}

var aToken = api.Token{0xa0, 0xa1, 0xa2, 0xa3, 0xa4, 0xa5, 0xa6, 0xa7, 0xa8, 0xa9, 0xaa, 0xab, 0xac, 0xad, 0xae, 0xaf}

const (
	most        = uint64(api.MaxVar)
	over        = most + 1
	mostText    = "ff ff ff ff ff ff ff ff"
	streamsText = "d0 00 00 00 00 00 00 00" // 2^60
	tokenText   = "a0a1a2a3a4a5a6a7a8a9aaabacadaeaf"
	zeroToken   = "00000000000000000000000000000000"
)

// all has all parameters, by rising numbers.
func all() told {
	return told{
		api.Params{
			Orig: []byte{1, 2, 3}, Cid: []byte{9}, Idle: 30000, Data: 1, StreamOwn: 64, StreamPeer: 16384, StreamUni: 1 << 30,
			Bidi: 3, Uni: 4, AckDelay: 25, CidLimit: 8, HasToken: true, Token: aToken,
		},
		"00 03 010203  01 04 80007530  02 10" + tokenText + "04 01 01  05 02 4040  06 04 80004000  07 08 c000000040000000  08 01 03  09 01 04  0b 01 19  0e 01 08  0f 01 09",
	}
}

// good has parameters that may be, with the bytes that they are told by.
func good() []told {
	id := stair(1, 20)
	idText := hex.EncodeToString(id)
	return []told{
		all(),
		{api.Params{}, ""},
		{api.Params{Orig: []byte{}, Cid: []byte{}}, ""},
		{api.Params{Idle: 30000, Bidi: 3, Cid: []byte{0x0a, 0x0b}}, "01 04 80007530  08 01 03  0f 02 0a0b"},
		{api.Params{Orig: []byte{7}}, "00 01 07"},
		{api.Params{Orig: []byte{0}}, "00 01 00"},
		{api.Params{Orig: id}, "00 14" + idText},
		{api.Params{Cid: []byte{7}}, "0f 01 07"},
		{api.Params{Cid: id}, "0f 14" + idText},
		{api.Params{Orig: id, Cid: id}, "00 14" + idText + "0f 14" + idText},
		{api.Params{HasToken: true}, "02 10" + zeroToken},
		{api.Params{HasToken: true, Token: aToken}, "02 10" + tokenText},
		{api.Params{Idle: 1}, "01 01 01"},
		{api.Params{Idle: 63}, "01 01 3f"},
		{api.Params{Idle: 64}, "01 02 4040"},
		{api.Params{Idle: 16383}, "01 02 7fff"},
		{api.Params{Idle: 16384}, "01 04 80004000"},
		{api.Params{Idle: 1<<30 - 1}, "01 04 bfffffff"},
		{api.Params{Idle: 1 << 30}, "01 08 c000000040000000"},
		{api.Params{Idle: most}, "01 08" + mostText},
		{api.Params{Data: most}, "04 08" + mostText},
		{api.Params{StreamOwn: most}, "05 08" + mostText},
		{api.Params{StreamPeer: most}, "06 08" + mostText},
		{api.Params{StreamUni: most}, "07 08" + mostText},
		{api.Params{Bidi: 1}, "08 01 01"},
		{api.Params{Bidi: 1 << 60}, "08 08" + streamsText},
		{api.Params{Uni: 1}, "09 01 01"},
		{api.Params{Uni: 1 << 60}, "09 08" + streamsText},
		{api.Params{AckDelay: 1}, "0b 01 01"},
		{api.Params{AckDelay: 1<<14 - 1}, "0b 02 7fff"},
		{api.Params{CidLimit: 2}, "0e 01 02"},
		{api.Params{CidLimit: 3}, "0e 01 03"},
		{api.Params{CidLimit: most}, "0e 08" + mostText},
	}
}

// bad has parameters that may not be.
func bad() map[string]api.Params {
	lastOfToken := api.Token{}
	lastOfToken[15] = 1
	return map[string]api.Params{
		"Orig of 21":           {Orig: make([]byte, 21)},
		"Orig of 70000":        {Orig: make([]byte, 70000)},
		"Cid of 21":            {Cid: make([]byte, 21)},
		"Cid of 256":           {Cid: make([]byte, 256)},
		"Idle too great":       {Idle: over},
		"Idle of 2^64-1":       {Idle: math.MaxUint64},
		"Data too great":       {Data: over},
		"StreamOwn too great":  {StreamOwn: over},
		"StreamPeer too great": {StreamPeer: over},
		"StreamUni too great":  {StreamUni: over},
		"StreamUni of 2^64-1":  {StreamUni: math.MaxUint64},
		"Bidi above 2^60":      {Bidi: 1<<60 + 1},
		"Bidi of MaxVar":       {Bidi: most},
		"Bidi of 2^64-1":       {Bidi: math.MaxUint64},
		"Uni above 2^60":       {Uni: 1<<60 + 1},
		"Uni of 2^64-1":        {Uni: math.MaxUint64},
		"AckDelay of 2^14":     {AckDelay: 1 << 14},
		"AckDelay of 2^64-1":   {AckDelay: math.MaxUint64},
		"CidLimit 1":           {CidLimit: 1},
		"CidLimit too great":   {CidLimit: over},
		"CidLimit of 2^64-1":   {CidLimit: math.MaxUint64},
		"Token, not HasToken":  {Token: aToken},
		"its last byte":        {Token: lastOfToken},
		"one of many":          {Orig: []byte{1}, Idle: 5, Bidi: 1<<60 + 1, CidLimit: 4, Cid: []byte{2}},
	}
}

// TestMay: P4.1, which parameters may be.
func TestMay(t *testing.T) {
	for _, x := range good() {
		if !May(x.p) {
			t.Errorf("May(%+v) = false", x.p)
		}
	}
}

// TestMayNot: P4.1, one past each bound, and a Token that is not had.
func TestMayNot(t *testing.T) {
	for name, p := range bad() {
		if May(p) {
			t.Errorf("%s: May(%+v) = true", name, p)
		}
	}
}

// TestAppend: P4.1, what parameters are told by, alone and behind others.
func TestAppend(t *testing.T) {
	for _, x := range good() {
		for _, ahead := range [][]byte{nil, {}, {9}, {0xff, 0, 0xc0}} {
			got, e := Append(ahead, x.p)
			want := append(bytes.Clone(ahead), raw(t, x.b)...)
			if e != api.OK || !bytes.Equal(got, want) {
				t.Errorf("Append(%x, %+v) = %x, %d, want %x", ahead, x.p, got, e, want)
			}
		}
	}
}

// TestAppendWrong: P4.1, ErrArg and no bytes; b is as it was.
func TestAppendWrong(t *testing.T) {
	for name, p := range bad() {
		b := append(make([]byte, 0, 64), 5, 6)
		got, e := Append(b, p)
		if e != api.ErrArg || len(got) != 0 {
			t.Errorf("%s: Append = %x, %d, want none, ErrArg", name, got, e)
		}
		if !bytes.Equal(b[:4], []byte{5, 6, 0, 0}) {
			t.Errorf("%s: Append wrote into b: %x", name, b[:4])
		}
	}
}

// TestAppendOwn: P4.1, R3: bytes of its own, whether b has room behind it or not, and also where nothing is told.
func TestAppendOwn(t *testing.T) {
	for _, x := range []told{all(), {}} {
		b := append(make([]byte, 0, 200), 5, 6)
		got, _ := Append(b, x.p)
		want := bytes.Clone(got)
		if !bytes.Equal(b[:4], []byte{5, 6, 0, 0}) {
			t.Errorf("Append wrote behind b: %x", b[:4])
		}
		clear(b[:cap(b)])
		clear(x.p.Orig)
		clear(x.p.Cid)
		if !bytes.Equal(got, want) {
			t.Errorf("Append shares bytes: %x, want %x", got, want)
		}
	}
}

// TestAppendKeeps: R3, what is handed in is not changed.
func TestAppendKeeps(t *testing.T) {
	p, was := all().p, all().p
	May(p)
	for range 2 {
		if got, e := Append(nil, p); e != api.OK || !bytes.Equal(got, raw(t, all().b)) {
			t.Errorf("Append = %x, %d", got, e)
		}
	}
	if !same(p, was) {
		t.Errorf("Append changed the parameters: %+v", p)
	}
}
