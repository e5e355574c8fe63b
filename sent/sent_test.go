package sent

import (
	"math"
	"math/big"
	"math/rand"
	"reflect"
	"slices"
	"testing"
	"time"

	"hostler/api"
)

const all64 = uint64(math.MaxUint64)

// rs is a list of ranges: of each two numbers the first is From, the second To.
func rs(ends ...uint64) []api.Range {
	var l []api.Range
	for i := 0; i+1 < len(ends); i += 2 {
		l = append(l, api.Range{From: ends[i], To: ends[i+1]})
	}
	return l
}

// pk is a packet of 100 bytes that elicits, sent at its number, behind which so many were acknowledged.
func pk(pn, after uint64) api.SentPacket {
	return api.SentPacket{Pn: pn, At: pn, Size: 100, Eliciting: true, After: after}
}

// pks are such packets: of each two numbers the first is a packet's, the second its After.
func pks(l ...uint64) []api.SentPacket {
	var out []api.SentPacket
	for i := 0; i+1 < len(l); i += 2 {
		out = append(out, pk(l[i], l[i+1]))
	}
	return out
}

// of is one that sent these packets, of 100 bytes, at their numbers, that elicit.
func of(t *testing.T, pn ...uint64) *Sent {
	t.Helper()
	s := &Sent{}
	for _, n := range pn {
		if e := s.Add(pk(n, 0)); e != api.OK {
			t.Fatalf("Add of %d: %v", n, e)
		}
	}
	return s
}

// given is one that sent 1, 2, 5, 7 and 9.
func given(t *testing.T) *Sent {
	t.Helper()
	return of(t, 1, 2, 5, 7, 9)
}

// numbers are the packets' numbers.
func numbers(l []api.SentPacket) []uint64 {
	var out []uint64
	for _, p := range l {
		out = append(out, p.Pn)
	}
	return out
}

// equal tells whether two lists have the same packets; an empty list may be nil, or not.
func equal(a, b []api.SentPacket) bool {
	return len(a) == 0 && len(b) == 0 || reflect.DeepEqual(a, b)
}

// same tells whether two states are the same one.
func same(a, b api.SentState) bool {
	if !equal(a.L, b.L) {
		return false
	}
	a.L, b.L = nil, nil
	return reflect.DeepEqual(a, b)
}

// deep is a state in memory of its own.
func deep(s api.SentState) api.SentState {
	s.L = slices.Clone(s.L)
	for i := range s.L {
		s.L[i].Frames = own(s.L[i].Frames)
	}
	return s
}

// ack acknowledges these ranges, and fails if that is an error.
func ack(t *testing.T, s *Sent, ends ...uint64) []api.SentPacket {
	t.Helper()
	l, e := s.Ack(rs(ends...)...)
	if e != api.OK {
		t.Fatalf("Ack of %v: %v", ends, e)
	}
	return l
}

// TestExamples: the document's examples, one behind the other.
func TestExamples(t *testing.T) {
	s := given(t)
	if l := ack(t, s, 7, 8); !equal(l, pks(7, 0)) {
		t.Error("Ack(7-8):", l)
	}
	if l := s.Lost(7, 50); len(l) != 0 || s.LossAt != 51 {
		t.Error("Lost(7, 50):", l, s.LossAt)
	}
	if l := ack(t, s, 9, 10, 5, 6); !equal(l, pks(5, 1, 9, 0)) {
		t.Error("Ack(9-10, 5-6):", l)
	}
	if l := s.Lost(9, 50); !equal(l, pks(1, 3, 2, 3)) {
		t.Error("Lost(9, 50):", l)
	}
	if l, e := s.Ack(rs(9, 11)...); e != api.ErrRange || l != nil {
		t.Error("Ack(9-11):", l, e)
	}
}

// TestAddNumbers: P15.1, numbers from Top on, up to MaxVar; behind an error nothing has changed.
func TestAddNumbers(t *testing.T) {
	table := []struct {
		top, pn uint64
		want    api.Errno
	}{
		{0, 0, api.OK}, {0, 7, api.OK}, {0, api.MaxVar, api.OK}, {0, api.MaxVar + 1, api.ErrArg}, {0, all64, api.ErrArg},
		{5, 0, api.ErrArg}, {5, 3, api.ErrArg}, {5, 4, api.ErrArg}, {5, 5, api.OK}, {5, 6, api.OK}, {5, api.MaxVar, api.OK}, {5, api.MaxVar + 1, api.ErrArg},
		{api.MaxVar, api.MaxVar - 1, api.ErrArg}, {api.MaxVar, api.MaxVar, api.OK}, {api.MaxVar, api.MaxVar + 1, api.ErrArg},
		{api.MaxVar + 1, api.MaxVar, api.ErrArg}, {api.MaxVar + 1, api.MaxVar + 1, api.ErrArg}, {all64, all64, api.ErrArg}, {all64, 0, api.ErrArg},
	}
	for _, x := range table {
		s := &Sent{api.SentState{L: pks(3, 1), Has: true, Largest: 4, LossAt: 9, LastAt: 8, Top: x.top}}
		want := deep(s.SentState)
		if x.want == api.OK {
			want.L, want.LastAt, want.Top = append(want.L, pk(x.pn, 0)), x.pn, x.pn+1
		}
		if e := s.Add(pk(x.pn, 0)); e != x.want || !same(s.SentState, want) {
			t.Errorf("Top %d, Add of %d: %v, %+v", x.top, x.pn, e, s.SentState)
		}
	}
}

// TestAddParts: P15.1, a packet is on its way as it is, but for its After; LastAt is of those that elicit alone.
func TestAddParts(t *testing.T) {
	frames := []api.Frame{{Kind: api.FrPing}, {Kind: api.FrToken, Data: []byte("abc")}}
	table := []struct {
		p      api.SentPacket
		lastAt uint64
	}{
		{api.SentPacket{Pn: 3, At: 70, Size: 1200, Eliciting: true, Frames: frames}, 70},
		{api.SentPacket{Pn: 4, At: 80, Size: 40}, 70},
		{api.SentPacket{Pn: 5, At: 90, Eliciting: true, After: 2}, 90},
		{api.SentPacket{Pn: 6, At: 95, Size: 1, After: all64, Frames: frames[:1]}, 90},
		{api.SentPacket{Pn: 9, At: 0, Size: 2, Eliciting: true}, 0},
		{api.SentPacket{Pn: 11, At: 1 << 62, Size: 1 << 62, Eliciting: true}, 1 << 62},
	}
	s := &Sent{}
	var want []api.SentPacket
	for _, x := range table {
		if e := s.Add(x.p); e != api.OK {
			t.Fatal(x.p, e)
		}
		x.p.After = 0
		want = append(want, x.p)
		if !equal(s.L, want) || s.LastAt != x.lastAt || s.Top != x.p.Pn+1 || s.Has || s.Largest != 0 || s.LossAt != 0 {
			t.Errorf("behind %+v: %+v", x.p, s.SentState)
		}
	}
}

// TestAddOwn: R3, a packet's frames are in memory of their own.
func TestAddOwn(t *testing.T) {
	with := func() []api.Frame {
		return []api.Frame{{Kind: api.FrNewCid, Id: 1, Cid: []byte("01234567")}, {Kind: api.FrResponse, Data: []byte("abcdefgh")}, {Kind: api.FrAck, Acks: rs(1, 2, 5, 7)}}
	}
	s := &Sent{}
	p, q := pk(1, 0), pk(2, 0)
	p.Frames = with()
	q.Frames = p.Frames
	s.Add(p)
	s.Add(q)
	if !reflect.DeepEqual(p.Frames, with()) {
		t.Error("Add changed what was handed in:", p.Frames)
	}
	p.Frames[0].Cid[0], p.Frames[1].Data[0], p.Frames[2].Acks[0] = 0, 0, api.Range{}
	p.Frames[0] = api.Frame{}
	if !reflect.DeepEqual(s.L[0].Frames, with()) || !reflect.DeepEqual(s.L[1].Frames, with()) {
		t.Error("a packet hangs on what was handed in:", s.L)
	}
	s.L[0].Frames[0].Cid[0], s.L[0].Frames[1].Data[0], s.L[0].Frames[2].Acks[0] = 0, 0, api.Range{}
	if !reflect.DeepEqual(s.L[1].Frames, with()) {
		t.Error("two packets share memory:", s.L)
	}
	if l := ack(t, s, 2, 3); len(l) != 1 || !reflect.DeepEqual(l[0].Frames, with()) {
		t.Error("the packet is told otherwise:", l)
	}
}

// TestBytes: P15.1, the sum of the Sizes of those that are on their way.
func TestBytes(t *testing.T) {
	table := []struct {
		sizes []uint64
		want  uint64
	}{
		{nil, 0}, {[]uint64{0}, 0}, {[]uint64{1}, 1}, {[]uint64{1200, 0, 40, 1200}, 2440}, {[]uint64{1 << 62, 1 << 62}, 1 << 63},
		{[]uint64{all64}, all64}, {[]uint64{all64 - 5, 5}, all64}, {[]uint64{all64 - 5, 6}, all64}, {[]uint64{all64, all64, 1}, all64},
	}
	for _, x := range table {
		s := &Sent{}
		for i, n := range x.sizes {
			s.Add(api.SentPacket{Pn: uint64(i), Size: n, Eliciting: i%2 == 0})
		}
		before := deep(s.SentState)
		if n := s.Bytes(); n != x.want || !same(before, s.SentState) {
			t.Errorf("Bytes of %v: %d", x.sizes, n)
		}
	}
	s := given(t)
	for _, x := range []struct{ pn, want uint64 }{{9, 400}, {1, 300}, {5, 200}, {2, 100}, {7, 0}} {
		if ack(t, s, x.pn, x.pn+1); s.Bytes() != x.want {
			t.Errorf("Bytes behind an ACK of %d: %d", x.pn, s.Bytes())
		}
	}
}

// TestWaits: P15.1, whether one of those on their way is Eliciting.
func TestWaits(t *testing.T) {
	table := []struct {
		eliciting []bool
		want      bool
	}{
		{nil, false}, {[]bool{false}, false}, {[]bool{true}, true}, {[]bool{false, false, false}, false},
		{[]bool{true, false, false}, true}, {[]bool{false, true, false}, true}, {[]bool{false, false, true}, true},
	}
	for _, x := range table {
		s := &Sent{}
		for i, is := range x.eliciting {
			s.Add(api.SentPacket{Pn: uint64(i), Size: 100, Eliciting: is})
		}
		before := deep(s.SentState)
		if s.Waits() != x.want || !same(before, s.SentState) {
			t.Errorf("Waits of %v: %v", x.eliciting, s.Waits())
		}
		for i, is := range x.eliciting {
			if is {
				ack(t, s, uint64(i), uint64(i)+1)
			}
		}
		if s.Waits() {
			t.Errorf("Waits of %v, of which those that elicit were acknowledged", x.eliciting)
		}
	}
}

// TestAck: P15.2, which packets are told, which stay, with which After, and what Largest is.
func TestAck(t *testing.T) {
	table := []struct {
		l          []api.Range
		told, left []api.SentPacket
		largest    uint64
	}{
		{rs(9, 10), pks(9, 0), pks(1, 1, 2, 1, 5, 1, 7, 1), 9},
		{rs(1, 2), pks(1, 0), pks(2, 0, 5, 0, 7, 0, 9, 0), 1},
		{rs(0, 2), pks(1, 0), pks(2, 0, 5, 0, 7, 0, 9, 0), 1},
		{rs(5, 6), pks(5, 0), pks(1, 1, 2, 1, 7, 0, 9, 0), 5},
		{rs(5, 7), pks(5, 0), pks(1, 1, 2, 1, 7, 0, 9, 0), 6},
		{rs(3, 5), nil, pks(1, 0, 2, 0, 5, 0, 7, 0, 9, 0), 4},
		{rs(0, 1), nil, pks(1, 0, 2, 0, 5, 0, 7, 0, 9, 0), 0},
		{rs(0, 10), pks(1, 0, 2, 0, 5, 0, 7, 0, 9, 0), nil, 9},
		{rs(1, 6), pks(1, 0, 2, 0, 5, 0), pks(7, 0, 9, 0), 5},
		{rs(2, 10), pks(2, 0, 5, 0, 7, 0, 9, 0), pks(1, 4), 9},
		{rs(9, 10, 5, 6), pks(5, 0, 9, 0), pks(1, 2, 2, 2, 7, 1), 9},
		{rs(5, 6, 9, 10), pks(5, 0, 9, 0), pks(1, 2, 2, 2, 7, 1), 9},
		{rs(1, 2, 5, 6, 9, 10), pks(1, 0, 5, 0, 9, 0), pks(2, 2, 7, 1), 9},
		{rs(7, 8, 2, 3), pks(2, 0, 7, 0), pks(1, 2, 5, 1, 9, 0), 7},
		{rs(2, 6, 5, 8, 2, 3), pks(2, 0, 5, 0, 7, 0), pks(1, 3, 9, 0), 7},
		{rs(5, 6, 5, 6, 5, 6), pks(5, 0), pks(1, 1, 2, 1, 7, 0, 9, 0), 5},
		{rs(5, 5, 7, 8, 9, 2), pks(7, 0), pks(1, 1, 2, 1, 5, 1, 9, 0), 7},
		{rs(7, 8, 20, 20, 100, 11, all64, 30), pks(7, 0), pks(1, 1, 2, 1, 5, 1, 9, 0), 7},
	}
	for _, x := range table {
		s := given(t)
		s.LossAt = 77
		handed := slices.Clone(x.l)
		l, e := s.Ack(handed...)
		want := api.SentState{L: x.left, Has: true, Largest: x.largest, LossAt: 77, LastAt: 9, Top: 10}
		if e != api.OK || !equal(l, x.told) || !same(s.SentState, want) {
			t.Errorf("Ack of %v: %v, %v, %+v", x.l, l, e, s.SentState)
		}
		if !slices.Equal(handed, x.l) {
			t.Errorf("Ack of %v changed them: %v", x.l, handed)
		}
		if again := ack(t, s, 0, x.largest+1); slices.ContainsFunc(again, func(p api.SentPacket) bool { return slices.Contains(numbers(x.told), p.Pn) }) {
			t.Errorf("Ack of %v: told once more: %v", x.l, again)
		}
	}
}

// TestAckNone: P15.2, ranges without a number are none, wherever they stand.
func TestAckNone(t *testing.T) {
	for _, l := range [][]api.Range{nil, {}, rs(0, 0), rs(5, 5), rs(5, 4), rs(10, 10, 11, 11), rs(all64, 0, all64, all64), rs(12, 11, 9, 1)} {
		for _, has := range []bool{false, true} {
			s := given(t)
			s.Has, s.Largest, s.LossAt = has, 3, 6
			before := deep(s.SentState)
			if told, e := s.Ack(l...); e != api.OK || len(told) != 0 || !same(before, s.SentState) {
				t.Errorf("Ack of %v: %v, %v, %+v", l, told, e, s.SentState)
			}
		}
	}
}

// TestAckRange: P15.2 and R2, of a number that was never sent nothing is told, and nothing changes.
func TestAckRange(t *testing.T) {
	lists := [][]api.Range{rs(9, 11), rs(10, 11), rs(0, 11), rs(11, 12), rs(0, all64), rs(all64-1, all64), rs(9, 10, 10, 11), rs(20, 21, 9, 10), rs(1, 2, 30, 31, 5, 6), rs(5, 4, 10, 11)}
	for _, l := range lists {
		s := given(t)
		s.Has, s.Largest, s.LossAt = true, 3, 6
		before := deep(s.SentState)
		if told, e := s.Ack(l...); e != api.ErrRange || told != nil || !same(before, s.SentState) {
			t.Errorf("Ack of %v: %v, %v, %+v", l, told, e, s.SentState)
		}
	}
	s := &Sent{}
	if told, e := s.Ack(rs(0, 1)...); e != api.ErrRange || told != nil || s.Has {
		t.Error("of nothing that was sent:", told, e, s)
	}
	for _, pn := range []uint64{0, 1, api.MaxVar} {
		s := of(t, pn)
		if told, e := s.Ack(rs(pn, pn+2)...); e != api.ErrRange || told != nil {
			t.Errorf("above Top of %d: %v, %v", pn, told, e)
		}
		if told := ack(t, s, pn, pn+1); !equal(told, pks(pn, 0)) || !s.Has || s.Largest != pn {
			t.Errorf("at Top of %d: %v, %+v", pn, told, s)
		}
	}
}

// TestAckLargest: P15.2, Largest rises, and falls never; the first one counts, whatever Largest was ahead of it.
func TestAckLargest(t *testing.T) {
	s := given(t)
	for _, x := range [][3]uint64{{0, 1, 0}, {5, 6, 5}, {2, 3, 5}, {4, 6, 5}, {5, 7, 6}, {1, 2, 6}, {9, 10, 9}, {0, 10, 9}} {
		if ack(t, s, x[0], x[1]); !s.Has || s.Largest != x[2] {
			t.Errorf("Ack of %d-%d: %+v", x[0], x[1], s)
		}
	}
	table := []struct {
		has         bool
		largest     uint64
		then, other uint64
	}{
		{false, 0, 2, 2}, {false, 50, 2, 2}, {true, 0, 2, 2}, {true, 1, 2, 2}, {true, 2, 2, 2}, {true, 3, 3, 2}, {true, 50, 50, 2},
	}
	for _, x := range table {
		s := &Sent{api.SentState{L: pks(2, 0, 5, 0), Has: x.has, Largest: x.largest, Top: 10}}
		if ack(t, s, x.other, x.other+1); !s.Has || s.Largest != x.then {
			t.Errorf("%+v: %+v", x, s)
		}
	}
}

// TestAfter: P15.2, packets are counted, not numbers, nor ACKs, and none twice.
func TestAfter(t *testing.T) {
	s := of(t, 1, 10, 20, 30, 40)
	steps := []struct {
		l    []api.Range
		left []api.SentPacket
	}{
		{rs(11, 20), pks(1, 0, 10, 0, 20, 0, 30, 0, 40, 0)},
		{rs(11, 21), pks(1, 1, 10, 1, 30, 0, 40, 0)},
		{rs(11, 21, 31, 40), pks(1, 1, 10, 1, 30, 0, 40, 0)},
		{rs(40, 41, 20, 21), pks(1, 2, 10, 2, 30, 1)},
		{rs(10, 11), pks(1, 3, 30, 1)},
		{rs(30, 31), pks(1, 4)},
		{rs(0, 41), nil},
	}
	for _, x := range steps {
		if _, e := s.Ack(x.l...); e != api.OK || !equal(s.L, x.left) {
			t.Fatalf("Ack of %v: %v, %v", x.l, e, s.L)
		}
	}
	s = &Sent{api.SentState{L: pks(1, all64, 2, all64-1, 3, 0, 4, 0), Top: 5}}
	if ack(t, s, 3, 5); !equal(s.L, pks(1, all64, 2, all64)) {
		t.Error("a count that wraps round:", s.L)
	}
}

// TestLostCount: P15.3, those behind which Threshold came, and that are overtaken.
func TestLostCount(t *testing.T) {
	if Threshold != 3 {
		t.Fatal(Threshold)
	}
	state := func() api.SentState {
		return api.SentState{L: pks(1, 4, 2, 3, 3, 2, 4, 3, 5, 0, 6, 3, 7, 9), Has: true, Largest: 6, Top: 9}
	}
	table := []struct {
		has        bool
		largest    uint64
		lost, left []uint64
	}{
		{true, 6, []uint64{1, 2, 4}, []uint64{3, 5, 6, 7}}, {true, 7, []uint64{1, 2, 4, 6}, []uint64{3, 5, 7}}, {true, 8, []uint64{1, 2, 4, 6, 7}, []uint64{3, 5}},
		{true, 4, []uint64{1, 2}, []uint64{3, 4, 5, 6, 7}}, {true, 1, nil, []uint64{1, 2, 3, 4, 5, 6, 7}}, {true, 0, nil, []uint64{1, 2, 3, 4, 5, 6, 7}},
		{false, 8, nil, []uint64{1, 2, 3, 4, 5, 6, 7}}, {false, all64, nil, []uint64{1, 2, 3, 4, 5, 6, 7}},
	}
	for _, x := range table {
		s := &Sent{state()}
		s.Has, s.Largest = x.has, x.largest
		if l := numbers(s.Lost(0, 1000)); !slices.Equal(l, x.lost) || !slices.Equal(numbers(s.L), x.left) {
			t.Errorf("Has %v, Largest %d: lost %v, left %v", x.has, x.largest, l, numbers(s.L))
		}
		if l := s.Lost(0, 1000); len(l) != 0 {
			t.Errorf("Has %v, Largest %d: lost once more: %v", x.has, x.largest, l)
		}
	}
}

// TestLostTime: P15.3, a packet's tick and delay together are at most now.
func TestLostTime(t *testing.T) {
	table := []struct {
		at, delay, now uint64
		lost           bool
		lossAt         uint64
	}{
		{100, 50, 149, false, 150}, {100, 50, 150, true, 0}, {100, 50, 151, true, 0}, {100, 50, 0, false, 150}, {100, 50, 99, false, 150}, {100, 0, 99, false, 100}, {100, 0, 100, true, 0},
		{0, 0, 0, true, 0}, {0, 1, 0, false, 1}, {0, 1, 1, true, 0}, {1 << 62, 1 << 62, 1 << 62, false, 1 << 63}, {1 << 62, 0, 1 << 62, true, 0}, {1, 1 << 62, 1 << 62, false, 1<<62 + 1},
		{100, all64, 150, false, all64}, {100, all64 - 100, all64, true, 0}, {100, all64 - 100, all64 - 1, false, all64}, {all64, all64, 150, false, all64}, {all64, 1, 0, false, all64}, {all64, 0, all64, true, 0},
	}
	for _, x := range table {
		s := &Sent{api.SentState{L: []api.SentPacket{{Pn: 1, At: x.at}}, Has: true, Largest: 2, LossAt: 7, LastAt: 6, Top: 3}}
		want := deep(s.SentState)
		want.LossAt = x.lossAt
		var told []api.SentPacket
		if x.lost {
			want.L, told = nil, want.L
		}
		if l := s.Lost(x.now, x.delay); !equal(l, told) || !same(s.SentState, want) {
			t.Errorf("At %d, Lost(%d, %d): %v, %+v", x.at, x.now, x.delay, l, s.SentState)
		}
	}
}

// TestLossAt: P15.3, the least sum of those that are left and overtaken, 1 at least; 0, if there is none.
func TestLossAt(t *testing.T) {
	at := func(l ...uint64) (out []api.SentPacket) {
		for i, n := range l {
			out = append(out, api.SentPacket{Pn: uint64(i), At: n})
		}
		return out
	}
	table := []struct {
		name       string
		l          []api.SentPacket
		has        bool
		largest    uint64
		now, delay uint64
		want       uint64
		left       int
	}{
		{"none on its way", nil, true, 9, 40, 50, 0, 0}, {"none acknowledged", at(10, 20), false, 9, 40, 50, 0, 2}, {"none overtaken", at(10, 20), true, 0, 40, 50, 0, 2},
		{"the first", at(10, 20, 30), true, 1, 40, 50, 60, 3}, {"of three", at(10, 20, 30), true, 3, 40, 50, 60, 3},
		{"the first lost", at(10, 20, 30), true, 3, 60, 50, 70, 2}, {"two lost", at(10, 20, 30), true, 3, 70, 50, 80, 1}, {"all lost", at(10, 20, 30), true, 3, 80, 50, 0, 0},
		{"two lost, and the third not overtaken", at(10, 20, 30), true, 2, 80, 50, 0, 1}, {"in another order", at(30, 10, 20), true, 3, 40, 50, 60, 3},
		{"another order, the least not overtaken", at(30, 10, 20), true, 1, 40, 50, 80, 3}, {"another order, the least lost", at(30, 10, 20), true, 3, 65, 50, 70, 2},
		{"at 0, with delay", at(0), true, 1, 0, 5, 5, 1}, {"at 0, with a delay of 1", at(0, 1), true, 2, 0, 1, 1, 2}, {"ahead of now", at(5, 6), true, 2, 4, 0, 5, 2},
	}
	for _, x := range table {
		s := &Sent{api.SentState{L: x.l, Has: x.has, Largest: x.largest, LossAt: 12345, Top: 10}}
		if s.Lost(x.now, x.delay); s.LossAt != x.want || len(s.L) != x.left {
			t.Errorf("%s: %+v", x.name, s.SentState)
		}
	}
	// What would be lost at tick 0 is lost at whatever tick: no sum of one that is left is 0.
	s := &Sent{api.SentState{L: at(0), Has: true, Largest: 1, Top: 2}}
	if s.Lost(0, 0); len(s.L) != 0 || s.LossAt != 0 {
		t.Errorf("at 0, without delay: %+v", s.SentState)
	}
}

// TestLossAtOthers: P15.3, Add and Ack leave LossAt as it is.
func TestLossAtOthers(t *testing.T) {
	s := given(t)
	ack(t, s, 7, 8)
	s.Lost(7, 50)
	s.Add(pk(12, 0))
	ack(t, s, 1, 3, 12, 13)
	if s.LossAt != 51 {
		t.Error(s.LossAt)
	}
	if l := s.Lost(12, 50); len(l) != 0 || s.LossAt != 55 {
		t.Error(l, s.LossAt)
	}
}

// TestLast: P15.4, what was sent last is not lost, however late, till something later is acknowledged.
func TestLast(t *testing.T) {
	s := given(t)
	for _, now := range []uint64{9, 1000, 1 << 62, all64} {
		if l := s.Lost(now, 0); len(l) != 0 || s.LossAt != 0 {
			t.Fatalf("without an ACK, at %d: %v, %d", now, l, s.LossAt)
		}
	}
	ack(t, s, 7, 8)
	if l := s.Lost(all64, 0); !equal(l, pks(1, 1, 2, 1, 5, 1)) || !equal(s.L, pks(9, 0)) || s.LossAt != 0 {
		t.Fatal("behind an ACK of 7:", l, s.L, s.LossAt)
	}
	s.Add(pk(11, 0))
	if l := s.Lost(all64, 0); len(l) != 0 {
		t.Fatal("9, though nothing later came:", l)
	}
	ack(t, s, 11, 12)
	if l := s.Lost(all64, 0); !equal(l, pks(9, 1)) {
		t.Fatal("9, behind an ACK of 11:", l)
	}
	// An ACK of a number that this connection did not use is one of something later, too.
	s = of(t, 3, 6)
	if ack(t, s, 4, 5); len(s.Lost(9, 7)) != 0 || s.LossAt != 10 || !equal(s.Lost(10, 7), pks(3, 0)) || !equal(s.L, pks(6, 0)) {
		t.Errorf("behind an ACK of a gap: %+v", s)
	}
}

// TestClear: P15.3, all that are on their way, once; the rest stays as it is.
func TestClear(t *testing.T) {
	s := given(t)
	ack(t, s, 5, 6)
	s.Lost(5, 50)
	if s.LossAt == 0 {
		t.Fatal("no LossAt")
	}
	if l := s.Clear(); !equal(l, pks(1, 1, 2, 1, 7, 0, 9, 0)) {
		t.Error(l)
	}
	want := api.SentState{Has: true, Largest: 5, LastAt: 9, Top: 10}
	if !same(s.SentState, want) || s.Bytes() != 0 || s.Waits() {
		t.Errorf("%+v", s)
	}
	if l := s.Clear(); len(l) != 0 || !same(s.SentState, want) {
		t.Errorf("once more: %v, %+v", l, s)
	}
	if l := ack(t, s, 0, 10); len(l) != 0 {
		t.Error("told once more:", l)
	}
	if e := s.Add(pk(9, 0)); e != api.ErrArg {
		t.Error("a number that was sent:", e)
	}
	if e := s.Add(pk(10, 0)); e != api.OK || !equal(s.L, pks(10, 0)) {
		t.Errorf("%v, %+v", e, s)
	}
}

// TestNil: R4, of a nil one.
func TestNil(t *testing.T) {
	var s *Sent
	for _, p := range []api.SentPacket{{}, pk(1, 0), pk(all64, 0)} {
		if e := s.Add(p); e != api.ErrNil {
			t.Error("Add:", e)
		}
	}
	for _, l := range [][]api.Range{nil, rs(5, 4), rs(0, 5)} {
		if told, e := s.Ack(l...); e != api.ErrNil || told != nil {
			t.Error("Ack:", told, e)
		}
	}
	if len(s.Lost(all64, 0)) != 0 || len(s.Clear()) != 0 || s.Bytes() != 0 || s.Waits() {
		t.Error("Lost, Clear, Bytes, Waits:", s.Lost(1, 1), s.Clear(), s.Bytes(), s.Waits())
	}
}

// TestZero: of one of which nothing was sent nothing is told.
func TestZero(t *testing.T) {
	s := &Sent{}
	if l := ack(t, s); len(l) != 0 {
		t.Error(l)
	}
	if len(s.Lost(all64, 0)) != 0 || len(s.Clear()) != 0 || s.Bytes() != 0 || s.Waits() || !same(s.SentState, api.SentState{}) {
		t.Errorf("%+v", s)
	}
}

// TestOlder: R3, a state that was taken stands as it was, and what was told stays, whatever is done behind it.
func TestOlder(t *testing.T) {
	s := of(t, 1, 2, 3, 4, 5, 6, 7, 8, 9)
	var taken, copies []api.SentState
	var told, toldCopies [][]api.SentPacket
	step := func(l []api.SentPacket) {
		taken, copies = append(taken, s.SentState), append(copies, deep(s.SentState))
		told, toldCopies = append(told, l), append(toldCopies, slices.Clone(l))
	}
	step(nil)
	step(ack(t, s, 1, 3))
	step(ack(t, s, 5, 6))
	s.Add(pk(20, 0))
	step(ack(t, s, 6, 8))
	step(s.Lost(8, 50))
	s.Add(pk(21, 0))
	step(ack(t, s, 20, 22))
	step(s.Lost(58, 50))
	s.Add(pk(22, 0))
	step(s.Clear())
	s.Add(pk(23, 0))
	for i := range taken {
		if !same(taken[i], copies[i]) || !equal(told[i], toldCopies[i]) {
			t.Errorf("step %d: %+v, told %v", i, taken[i], told[i])
		}
	}
	// What is put behind a list that was told changes nothing that is on its way.
	s = given(t)
	l := ack(t, s, 1, 6)
	_ = append(l, pk(99, 9), pk(99, 9))
	if !equal(s.L, pks(7, 0, 9, 0)) {
		t.Error(s.L)
	}
}

// TestToldOwn: R3, what is told is a list of its own, whatever becomes of the state's.
func TestToldOwn(t *testing.T) {
	calls := []struct {
		name string
		call func(s *Sent) []api.SentPacket
		want []api.SentPacket
	}{
		{"Ack", func(s *Sent) []api.SentPacket { return ack(t, s, 1, 3) }, pks(1, 3, 2, 0)},
		{"Ack of all", func(s *Sent) []api.SentPacket { return ack(t, s, 0, 10) }, pks(1, 3, 2, 0, 3, 3, 4, 0)},
		{"Lost", func(s *Sent) []api.SentPacket { return s.Lost(0, 50) }, pks(1, 3, 3, 3)},
		{"Clear", (*Sent).Clear, pks(1, 3, 2, 0, 3, 3, 4, 0)},
	}
	for _, x := range calls {
		l := pks(1, 3, 2, 0, 3, 3, 4, 0)
		told := x.call(&Sent{api.SentState{L: l, Has: true, Largest: 4, Top: 10}})
		if !equal(l, pks(1, 3, 2, 0, 3, 3, 4, 0)) {
			t.Errorf("%s changed the list that stood: %v", x.name, l)
		}
		clear(l)
		if !equal(told, x.want) {
			t.Errorf("%s: %v", x.name, told)
		}
	}
}

// model is what was sent, word by word; each packet that was added is on its way, or was told.
type model struct {
	state api.SentState
	told  map[uint64]bool
}

func (m *model) add(p api.SentPacket) api.Errno {
	if p.Pn < m.state.Top || p.Pn > api.MaxVar {
		return api.ErrArg
	}
	p.After = 0
	m.state.L = append(slices.Clone(m.state.L), p)
	m.state.Top = p.Pn + 1
	if p.Eliciting {
		m.state.LastAt = p.At
	}
	return api.OK
}

// split takes off those of which off is true.
func (m *model) split(off func(p api.SentPacket) bool) []api.SentPacket {
	var gone, left []api.SentPacket
	for _, p := range m.state.L {
		if off(p) {
			gone = append(gone, p)
			m.told[p.Pn] = true
		} else {
			left = append(left, p)
		}
	}
	m.state.L = left
	return gone
}

func (m *model) ack(l []api.Range) ([]api.SentPacket, api.Errno) {
	for _, r := range l {
		if r.From < r.To && r.To > m.state.Top {
			return nil, api.ErrRange
		}
	}
	for _, r := range l {
		if r.From < r.To && (!m.state.Has || r.To-1 > m.state.Largest) {
			m.state.Has, m.state.Largest = true, r.To-1
		}
	}
	gone := m.split(func(p api.SentPacket) bool {
		return slices.ContainsFunc(l, func(r api.Range) bool { return r.From <= p.Pn && p.Pn < r.To })
	})
	for i := range m.state.L {
		for _, p := range gone {
			if p.Pn > m.state.L[i].Pn {
				m.state.L[i].After++
			}
		}
	}
	return gone, api.OK
}

// sum is a packet's tick and the delay together, without an end.
func sum(p api.SentPacket, delay uint64) *big.Int {
	at := new(big.Int).SetUint64(p.At)
	return at.Add(at, new(big.Int).SetUint64(delay))
}

func (m *model) lost(now, delay uint64) []api.SentPacket {
	overtaken := func(p api.SentPacket) bool { return m.state.Has && p.Pn < m.state.Largest }
	gone := m.split(func(p api.SentPacket) bool {
		return overtaken(p) && (p.After >= 3 || sum(p, delay).Cmp(new(big.Int).SetUint64(now)) <= 0)
	})
	var least *big.Int
	for _, p := range m.state.L {
		if overtaken(p) && (least == nil || sum(p, delay).Cmp(least) < 0) {
			least = sum(p, delay)
		}
	}
	m.state.LossAt = 0
	if least != nil {
		m.state.LossAt = max(least.Uint64(), 1)
	}
	return gone
}

func (m *model) clear() []api.SentPacket {
	m.state.LossAt = 0
	return m.split(func(api.SentPacket) bool { return true })
}

// chance is a run of calls by chance, on one and its model.
type chance struct {
	t    *testing.T
	rnd  *rand.Rand
	s    *Sent
	m    *model
	now  uint64
	base uint64
	sent []uint64
}

// near is a number between the base and a bit above Top.
func (c *chance) near() uint64 {
	return c.base + uint64(c.rnd.Int63n(int64(c.m.state.Top-c.base)+3))
}

// some are ranges by chance, some of which have no number; seldom one reaches above Top.
func (c *chance) some() []api.Range {
	var l []api.Range
	for range c.rnd.Intn(4) {
		r := api.Range{From: c.near(), To: c.near()}
		if c.rnd.Intn(3) > 0 {
			r.To = r.From + uint64(c.rnd.Intn(3))
		}
		if r.To > c.m.state.Top && c.rnd.Intn(4) > 0 {
			r.To = c.m.state.Top
		}
		l = append(l, r)
	}
	return l
}

// add adds one by chance, seldom of a number that may not be.
func (c *chance) add() {
	p := api.SentPacket{Pn: c.m.state.Top + uint64(c.rnd.Intn(3)), At: c.now, Size: uint64(c.rnd.Intn(1201)), Eliciting: c.rnd.Intn(3) > 0, After: uint64(c.rnd.Intn(5))}
	if c.rnd.Intn(10) == 0 {
		p.Pn = c.near()
	}
	if c.rnd.Intn(3) == 0 {
		p.Frames = []api.Frame{{Kind: api.FrMaxData, Max: p.Pn}, {Kind: api.FrResponse, Data: []byte{1, 2, 3, 4, 5, 6, 7, byte(p.Pn)}}}
	}
	got, want := c.s.Add(p), c.m.add(p)
	if got != want {
		c.t.Fatalf("Add of %+v: %v, not %v", p, got, want)
	}
	if got == api.OK {
		c.sent = append(c.sent, p.Pn)
	}
}

// step does one call by chance, and holds both against each other.
func (c *chance) step() {
	var got, want []api.SentPacket
	what := c.rnd.Intn(100)
	switch {
	case what < 50:
		c.add()
	case what < 75:
		l := c.some()
		var e, f api.Errno
		got, e = c.s.Ack(l...)
		if want, f = c.m.ack(l); e != f {
			c.t.Fatalf("Ack of %v: %v, not %v", l, e, f)
		}
	case what < 98:
		delay := uint64(c.rnd.Intn(40))
		got, want = c.s.Lost(c.now, delay), c.m.lost(c.now, delay)
	case what < 99:
		got, want = c.s.Clear(), c.m.clear()
	}
	c.now += uint64(c.rnd.Intn(5))
	if !equal(got, want) || !same(c.s.SentState, c.m.state) {
		c.t.Fatalf("a call of kind %d: %v, not %v; %+v, not %+v", what, got, want, c.s.SentState, c.m.state)
	}
}

// whole fails unless each packet that was added is on its way, or was told, and none is both; and the sums are right.
func (c *chance) whole() {
	var bytes uint64
	waits := false
	for _, p := range c.s.L {
		if c.m.told[p.Pn] {
			c.t.Fatalf("%d was told, and is on its way", p.Pn)
		}
		bytes += p.Size
		waits = waits || p.Eliciting
	}
	if len(c.m.told)+len(c.s.L) != len(c.sent) {
		c.t.Fatalf("%d were sent, %d told, %d are on their way", len(c.sent), len(c.m.told), len(c.s.L))
	}
	if c.s.Bytes() != bytes || c.s.Waits() != waits {
		c.t.Fatalf("Bytes %d, not %d; Waits %v, not %v", c.s.Bytes(), bytes, c.s.Waits(), waits)
	}
}

// TestChance: P15.1 to P15.4, calls by chance, against a model that goes word by word.
func TestChance(t *testing.T) {
	for seed := range int64(300) {
		base := []uint64{0, 1 << 32, api.MaxVar - 80}[seed%3]
		now := []uint64{0, 1 << 40, 1 << 62}[seed/3%3]
		c := &chance{t: t, rnd: rand.New(rand.NewSource(seed)), s: &Sent{}, m: &model{told: map[uint64]bool{}}, now: now, base: base}
		c.s.Top, c.m.state.Top = base, base
		for range 200 {
			c.step()
			c.whole()
		}
	}
}

// TestStates: P15.3, states of any numbers, as a snapshot may have them, against the model.
func TestStates(t *testing.T) {
	rnd := rand.New(rand.NewSource(15))
	any64 := func() uint64 {
		return []uint64{0, 1, 2, 3, uint64(rnd.Intn(30)), 1 << 62, all64 / 2, all64 - 1, all64}[rnd.Intn(9)]
	}
	for range 20000 {
		var s api.SentState
		for pn := uint64(rnd.Intn(3)); len(s.L) < 6 && rnd.Intn(5) > 0; pn += 1 + uint64(rnd.Intn(3)) {
			// Sums above all numbers of 64 bits are no tick: the model's are below.
			s.L = append(s.L, api.SentPacket{Pn: pn, At: min(any64(), all64/2), After: uint64(rnd.Intn(6))})
		}
		s.Has, s.Largest, s.LossAt, s.Top = rnd.Intn(4) > 0, any64(), any64(), any64()
		now, delay := any64(), min(any64(), all64/2)
		got, m := &Sent{deep(s)}, &model{state: deep(s), told: map[uint64]bool{}}
		if l, want := got.Lost(now, delay), m.lost(now, delay); !equal(l, want) || !same(got.SentState, m.state) {
			t.Fatalf("%+v, Lost(%d, %d): %v, not %v; %+v, not %+v", s, now, delay, l, want, got.SentState, m.state)
		}
		r := rs(any64(), any64(), uint64(rnd.Intn(8)), uint64(rnd.Intn(12)))
		l, e := got.Ack(r...)
		if want, f := m.ack(r); e != f || !equal(l, want) || !same(got.SentState, m.state) {
			t.Fatalf("%+v, Ack of %v: %v, %v, not %v, %v; %+v, not %+v", s, r, l, e, want, f, got.SentState, m.state)
		}
	}
}

// TestMany: R1, many packets, and many ranges in no order, in a time that lets one wait.
func TestMany(t *testing.T) {
	const many = 100000
	begin := time.Now()
	s := &Sent{}
	for i := range uint64(many) {
		s.Add(pk(2*i, 0))
	}
	for i := range uint64(many / 2) {
		if l := ack(t, s, 2*i, 2*i+1); len(l) != 1 || len(s.Lost(2*i, 1000)) != 0 {
			t.Fatal(i, l)
		}
	}
	var l []api.Range
	for i := range uint64(many / 4) {
		l = append(l, rs(4*i+many, 4*i+many+1)...)
	}
	rand.New(rand.NewSource(1)).Shuffle(len(l), func(i, j int) { l[i], l[j] = l[j], l[i] })
	if told, e := s.Ack(l...); e != api.OK || len(told) != many/4 || len(s.L) != many/4 || s.L[0].After != many/4-1 {
		t.Error(e, len(told), len(s.L))
	}
	if lost := s.Lost(0, 1000); len(lost) != many/4-3 || len(s.L) != 3 {
		t.Error(len(lost), len(s.L))
	}
	if d := time.Since(begin); d > 20*time.Second {
		t.Error("it takes", d)
	}
}
