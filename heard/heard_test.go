package heard

import (
	"maps"
	"math"
	"math/rand"
	"reflect"
	"slices"
	"testing"

	"hostler/api"
	"hostler/frame"
	"hostler/span"
)

// all64 is the greatest number of 64 bits, which is in no range.
const all64 = uint64(math.MaxUint64)

// rs is a list of ranges: of each two numbers the first is From, the second To.
func rs(ends ...uint64) []api.Range {
	var l []api.Range
	for i := 0; i+1 < len(ends); i += 2 {
		l = append(l, api.Range{From: ends[i], To: ends[i+1]})
	}
	return l
}

// same tells whether two states are the same one; an empty list may be nil, or not.
func same(a, b api.HeardState) bool {
	if !slices.Equal(a.L, b.L) {
		return false
	}
	a.L, b.L = nil, nil
	return reflect.DeepEqual(a, b)
}

// of is one that heard these numbers, in this order, at 10, none of which wants an ACK.
func of(t *testing.T, pn ...uint64) *Heard {
	t.Helper()
	h := &Heard{}
	for _, n := range pn {
		if !h.Add(n, false, 10, 25) {
			t.Fatalf("%d is not new", n)
		}
	}
	return h
}

// apart are so many numbers, from from on, of which no two are beside each other.
func apart(from uint64, count int) []uint64 {
	var l []uint64
	for i := range uint64(count) {
		l = append(l, from+3*i)
	}
	return l
}

// ones are the ranges of numbers that are apart.
func ones(pn []uint64) []api.Range {
	var l []api.Range
	for _, n := range pn {
		l = append(l, api.Range{From: n, To: n + 1})
	}
	return l
}

// TestExamples: the document's examples, one behind the other.
func TestExamples(t *testing.T) {
	h := &Heard{}
	if !h.Add(3, true, 100, 25) || h.Ready(124) || !h.Ready(125) {
		t.Fatalf("the first line: %+v", h)
	}
	if !h.Add(4, true, 110, 25) || !h.Ready(110) {
		t.Fatalf("the second line: %+v", h)
	}
	if h.Add(3, true, 110, 25) {
		t.Fatal("3 is new again")
	}
	want := api.Frame{Kind: api.FrAck, Acks: rs(3, 5), Delay: 5}
	for range 2 {
		if f, ok := h.Ack(150); !ok || !reflect.DeepEqual(f, want) || h.Due != 0 {
			t.Fatalf("Ack: %+v, %v, Due %d", f, ok, h.Due)
		}
	}
}

// TestCame: P12.1, what is below Floor, and what is in the list, at the ranges' ends.
func TestCame(t *testing.T) {
	states := []struct {
		s       api.HeardState
		yes, no []uint64
	}{
		{api.HeardState{}, nil, []uint64{0, 1, api.MaxVar, all64}},
		{api.HeardState{L: rs(0, 1)}, []uint64{0}, []uint64{1, 2}},
		{api.HeardState{L: rs(3, 5, 7, 8), Largest: 7}, []uint64{3, 4, 7}, []uint64{0, 2, 5, 6, 8, all64}},
		{api.HeardState{L: rs(9, 11), Floor: 6, Largest: 10}, []uint64{0, 5, 9, 10}, []uint64{6, 7, 8, 11}},
		{api.HeardState{Floor: 6}, []uint64{0, 5}, []uint64{6, 7, all64}},
		{api.HeardState{L: rs(api.MaxVar, api.MaxVar+1), Largest: api.MaxVar}, []uint64{api.MaxVar}, []uint64{0, api.MaxVar - 1, api.MaxVar + 1}},
		{api.HeardState{L: rs(all64-1, all64), Floor: all64 - 2, Largest: all64 - 1}, []uint64{0, all64 - 3, all64 - 1}, []uint64{all64 - 2}},
	}
	for _, x := range states {
		h := &Heard{x.s}
		for _, n := range x.yes {
			if before := h.HeardState; !h.Came(n) || h.Add(n, true, 5, 0) || !same(before, h.HeardState) {
				t.Errorf("%+v: %d came: %+v", x.s, n, h)
			}
		}
		for _, n := range x.no {
			if h.Came(n) || !same(x.s, h.HeardState) {
				t.Errorf("%+v: %d did not come", x.s, n)
			}
		}
	}
}

// TestAddList: P12.1, the list is neat, whatever order numbers come in.
func TestAddList(t *testing.T) {
	table := []struct {
		pn   []uint64
		want []api.Range
	}{
		{[]uint64{0}, rs(0, 1)}, {[]uint64{7}, rs(7, 8)}, {[]uint64{0, 1, 2}, rs(0, 3)}, {[]uint64{2, 1, 0}, rs(0, 3)},
		{[]uint64{5, 3}, rs(3, 4, 5, 6)}, {[]uint64{5, 3, 4}, rs(3, 6)}, {[]uint64{1, 4, 7, 5, 2}, rs(1, 3, 4, 6, 7, 8)},
		{[]uint64{api.MaxVar, api.MaxVar - 2}, rs(api.MaxVar-2, api.MaxVar-1, api.MaxVar, api.MaxVar+1)},
		{[]uint64{all64 - 1, 0, all64 - 2}, rs(0, 1, all64-2, all64)},
	}
	for _, x := range table {
		h := of(t, x.pn...)
		if !slices.Equal(h.L, x.want) || h.Floor != 0 || h.Largest != slices.Max(x.pn) {
			t.Errorf("of %v: %+v", x.pn, h)
		}
		for _, n := range x.pn {
			if !h.Came(n) || h.Add(n, false, 10, 25) {
				t.Errorf("of %v: %d is new again", x.pn, n)
			}
		}
	}
}

// TestAddLargest: P12.1, Largest and At are of the greatest one that came alone; of the first one too if that is 0.
func TestAddLargest(t *testing.T) {
	steps := []struct {
		pn, now     uint64
		isNew       bool
		largest, at uint64
	}{
		{0, 40, true, 0, 40}, {0, 45, false, 0, 40}, {1, 50, true, 1, 50}, {9, 60, true, 9, 60}, {5, 70, true, 9, 60}, {9, 80, false, 9, 60},
		{8, 80, true, 9, 60}, {2, 85, true, 9, 60}, {10, 85, true, 10, 85}, {api.MaxVar, 86, true, api.MaxVar, 86}, {11, 87, true, api.MaxVar, 86},
	}
	for _, wants := range []bool{false, true} {
		h := &Heard{}
		for _, x := range steps {
			if got := h.Add(x.pn, wants, x.now, 25); got != x.isNew || h.Largest != x.largest || h.At != x.at {
				t.Fatalf("Add(%d, %v, %d): %v, %+v", x.pn, wants, x.now, got, h)
			}
		}
	}
}

// TestAddDue: P12.1, when the ACK of one more is due, by how many came, by delay, and by the number's place.
func TestAddDue(t *testing.T) {
	table := []struct {
		name           string
		s              api.HeardState
		pn, now, delay uint64
		due, count     uint64
	}{
		{"the first one", api.HeardState{}, 0, 100, 25, 125, 1},
		{"the first one, of whatever number", api.HeardState{}, 7, 100, 25, 125, 1},
		{"the first one, of the greatest number", api.HeardState{}, api.MaxVar, 100, 25, 125, 1},
		{"the first one, without delay", api.HeardState{}, 7, 100, 0, 100, 1},
		{"the first one, with a Floor", api.HeardState{Floor: 5}, 5, 100, 25, 100, 1},
		{"the first one, with a Floor, far above it", api.HeardState{Floor: 5}, 9, 100, 25, 100, 1},
		{"the first one, with a Floor, just behind 0", api.HeardState{Floor: 1}, 1, 100, 25, 125, 1},
		{"the first one, with that Floor, not just behind 0", api.HeardState{Floor: 1}, 2, 100, 25, 100, 1},
		{"just behind", api.HeardState{L: rs(3, 5), Largest: 4, At: 90}, 5, 100, 25, 125, 1},
		{"just behind, without delay", api.HeardState{L: rs(3, 5), Largest: 4, At: 90}, 5, 100, 0, 100, 1},
		{"just behind, with a delay of 1", api.HeardState{L: rs(3, 5), Largest: 4, At: 90}, 5, 100, 1, 101, 1},
		{"just behind 0", api.HeardState{L: rs(0, 1), At: 90}, 1, 100, 25, 125, 1},
		{"behind a gap of one", api.HeardState{L: rs(3, 5), Largest: 4, At: 90}, 6, 100, 25, 100, 1},
		{"behind a gap of one, of 0", api.HeardState{L: rs(0, 1), At: 90}, 2, 100, 25, 100, 1},
		{"far behind", api.HeardState{L: rs(3, 5), Largest: 4, At: 90}, api.MaxVar, 100, 25, 100, 1},
		{"late, just ahead of a range", api.HeardState{L: rs(3, 5), Largest: 4, At: 90}, 2, 100, 25, 100, 1},
		{"late, in a gap, just behind a range", api.HeardState{L: rs(1, 3, 8, 9), Largest: 8, At: 90}, 3, 100, 25, 100, 1},
		{"late, that fills a gap", api.HeardState{L: rs(1, 3, 4, 5), Largest: 4, At: 90}, 3, 100, 25, 100, 1},
		{"just behind what is forgotten", api.HeardState{Floor: 8, Largest: 7, At: 90}, 8, 100, 25, 125, 1},
		{"not just behind what is forgotten", api.HeardState{Floor: 8, Largest: 7, At: 90}, 9, 100, 25, 100, 1},
		{"not just behind, at a Floor above it", api.HeardState{Floor: 9, Largest: 7, At: 90}, 9, 100, 25, 100, 1},
		{"the second one", api.HeardState{L: rs(3, 5), Largest: 4, At: 90, Due: 115, Count: 1}, 5, 100, 25, 100, 2},
		{"the second one, behind what was due", api.HeardState{L: rs(3, 5), Largest: 4, At: 50, Due: 75, Count: 1}, 5, 100, 25, 100, 2},
		{"the third one", api.HeardState{L: rs(3, 5), Largest: 4, At: 90, Due: 90, Count: 2}, 5, 100, 25, 100, 3},
		{"due already, though none is counted", api.HeardState{L: rs(3, 5), Largest: 4, At: 90, Due: 115}, 5, 100, 25, 115, 1},
		{"at tick 0, without delay", api.HeardState{}, 0, 0, 0, 1, 1},
		{"at tick 0, not just behind", api.HeardState{L: rs(3, 5), Largest: 4}, 9, 0, 25, 1, 1},
		{"at tick 0, the second one", api.HeardState{L: rs(3, 5), Largest: 4, Due: 25, Count: 1}, 5, 0, 25, 1, 2},
		{"at tick 0, with delay", api.HeardState{}, 0, 0, 1, 1, 1},
		{"at 2^62", api.HeardState{}, 0, 1 << 62, 25000, 1<<62 + 25000, 1},
		{"both 2^62", api.HeardState{}, 0, 1 << 62, 1 << 62, 1 << 63, 1},
		{"beyond all ticks", api.HeardState{}, 0, 100, all64, all64, 1},
		{"beyond all ticks by one", api.HeardState{}, 0, all64 - 24, 25, all64, 1},
		{"the last tick of all", api.HeardState{}, 0, all64 - 25, 25, all64, 1},
		{"at the last tick of all", api.HeardState{}, 0, all64, 25, all64, 1},
	}
	for _, x := range table {
		h := &Heard{x.s}
		if !h.Add(x.pn, true, x.now, x.delay) || h.Due != x.due || h.Count != x.count {
			t.Errorf("%s: %+v", x.name, h)
		}
		quiet := &Heard{x.s}
		if !quiet.Add(x.pn, false, x.now, x.delay) || quiet.Due != x.s.Due || quiet.Count != x.s.Count {
			t.Errorf("%s, that wants none: %+v", x.name, quiet)
		}
		h.Due, h.Count = x.s.Due, x.s.Count
		if !same(h.HeardState, quiet.HeardState) || !h.Came(x.pn) {
			t.Errorf("%s: whether it wants an ACK is to be seen elsewhere: %+v, %+v", x.name, h, quiet)
		}
	}
}

// TestAddQuiet: P12.1, what wants no ACK is not counted, but is what comes just ahead of others.
func TestAddQuiet(t *testing.T) {
	h := of(t, 3)
	if h.Due != 0 || h.Count != 0 || h.Ready(all64) {
		t.Fatalf("%+v", h)
	}
	h.Add(4, true, 100, 25)
	h.Add(5, false, 101, 25)
	h.Add(9, false, 102, 25)
	if h.Due != 125 || h.Count != 1 {
		t.Fatalf("%+v", h)
	}
	h.Add(10, true, 103, 25)
	if h.Due != 103 || h.Count != 2 {
		t.Fatalf("%+v", h)
	}
}

// TestMaxKept: P12.1 and P12.4, of one range too many the first is left out, and counts as having come.
func TestMaxKept(t *testing.T) {
	if MaxKept != 64 {
		t.Fatal(MaxKept)
	}
	pn := apart(10, MaxKept)
	table := []struct {
		name  string
		pn    uint64
		want  []api.Range
		floor uint64
	}{
		{"above all", pn[63] + 2, append(ones(pn[1:]), rs(pn[63]+2, pn[63]+3)...), pn[1]},
		{"below all", 5, ones(pn), 10},
		{"below all, at 0", 0, ones(pn), 10},
		{"just behind the first", pn[0] + 1, append(rs(10, 12), ones(pn[1:])...), 0},
		{"just ahead of the first", 9, append(rs(9, 11), ones(pn[1:])...), 0},
		{"just behind the last", pn[63] + 1, append(ones(pn[:63]), rs(pn[63], pn[63]+2)...), 0},
	}
	for _, x := range table {
		h := of(t, pn...)
		if !slices.Equal(h.L, ones(pn)) || h.Floor != 0 {
			t.Fatalf("%d ranges: %+v", MaxKept, h)
		}
		if !h.Add(x.pn, true, 20, 0) || !slices.Equal(h.L, x.want) || h.Floor != x.floor || h.Due != 20 || h.Count != 1 {
			t.Errorf("%s: %+v", x.name, h)
		}
		if h.Largest != max(pn[63], x.pn) {
			t.Errorf("%s: Largest is %d", x.name, h.Largest)
		}
		for _, n := range append(pn, x.pn) {
			if !h.Came(n) || h.Add(n, true, 30, 0) {
				t.Errorf("%s: %d is new again", x.name, n)
			}
		}
		if x.floor != 0 && (h.Add(x.floor-1, true, 30, 0) || !h.Came(0)) {
			t.Errorf("%s: what is below Floor is new", x.name)
		}
	}
}

// TestMaxKeptGaps: P12.1, with a range of many numbers in front, all of it goes; and one in a gap between ranges makes one range more, too.
func TestMaxKeptGaps(t *testing.T) {
	first := []uint64{2, 3, 4, 5}
	h := of(t, append(first, apart(20, MaxKept-1)...)...)
	if len(h.L) != MaxKept || h.L[0] != (api.Range{From: 2, To: 6}) {
		t.Fatalf("%+v", h)
	}
	if !h.Add(9, false, 20, 0) || h.Floor != 9 || len(h.L) != MaxKept || h.L[0] != (api.Range{From: 9, To: 10}) {
		t.Fatalf("%+v", h)
	}
	for n := range uint64(10) {
		if !h.Came(n) {
			t.Errorf("%d did not come", n)
		}
	}
	if h.Came(10) || !h.Add(10, false, 20, 0) || h.Floor != 9 || h.L[0] != (api.Range{From: 9, To: 11}) {
		t.Errorf("%+v", h)
	}
}

// TestReady: P12.2, from Due on, and never without one.
func TestReady(t *testing.T) {
	table := []struct {
		due, now uint64
		want     bool
	}{
		{0, 0, false}, {0, 100, false}, {0, all64, false}, {1, 0, false}, {1, 1, true}, {125, 124, false}, {125, 125, true}, {125, 126, true}, {125, all64, true},
		{all64, all64 - 1, false}, {all64, all64, true}, {1 << 63, 1<<63 - 1, false}, {1 << 63, 1 << 63, true},
	}
	for _, x := range table {
		h := &Heard{api.HeardState{L: rs(3, 4), Largest: 3, Due: x.due, Count: 1}}
		before := h.HeardState
		if got := h.Ready(x.now); got != x.want || !same(before, h.HeardState) {
			t.Errorf("Due %d, Ready(%d) = %v: %+v", x.due, x.now, got, h)
		}
	}
}

// TestAckDelay: P12.2, eights of ticks from At on, cut; none ahead of it.
func TestAckDelay(t *testing.T) {
	table := []struct{ at, now, want uint64 }{
		{100, 100, 0}, {100, 107, 0}, {100, 108, 1}, {100, 115, 1}, {100, 116, 2}, {100, 99, 0}, {100, 0, 0}, {100, 92, 0}, {0, 7, 0}, {0, 8, 1},
		{0, 25000, 3125}, {0, 1 << 62, 1 << 59}, {0, all64, all64 / 8}, {all64, 0, 0}, {all64, all64 - 8, 0}, {all64, all64, 0}, {all64 - 8, all64, 1},
	}
	for _, x := range table {
		h := &Heard{api.HeardState{L: rs(3, 5, 7, 8), Largest: 7, At: x.at, Due: 5, Count: 3}}
		want := api.HeardState{L: rs(3, 5, 7, 8), Largest: 7, At: x.at}
		f, ok := h.Ack(x.now)
		if !ok || !reflect.DeepEqual(f, api.Frame{Kind: api.FrAck, Acks: rs(3, 5, 7, 8), Delay: x.want}) || !same(h.HeardState, want) {
			t.Errorf("At %d, Ack(%d) = %+v, %v: %+v", x.at, x.now, f, ok, h)
		}
		if !frame.May(f) {
			t.Errorf("At %d, Ack(%d): no such frame may be: %+v", x.at, x.now, f)
		}
	}
}

// TestAckRanges: P12.2, the last MaxAcks ranges, rising, and the list stays whole.
func TestAckRanges(t *testing.T) {
	for _, n := range []int{1, 2, api.MaxAcks - 1, api.MaxAcks, api.MaxAcks + 1, MaxKept - 1, MaxKept} {
		pn := apart(10, n)
		h := of(t, pn...)
		f, ok := h.Ack(10)
		if want := ones(pn[max(0, n-32):]); !ok || !slices.Equal(f.Acks, want) {
			t.Errorf("of %d ranges: %v, %v", n, f.Acks, ok)
		}
		if !slices.Equal(h.L, ones(pn)) || !frame.May(f) {
			t.Errorf("of %d ranges: the list is %v behind it", n, h.L)
		}
	}
}

// TestAckNone: P12.2 and R2, where the list is empty nothing is told, and nothing changes.
func TestAckNone(t *testing.T) {
	for _, s := range []api.HeardState{{}, {Floor: 9, Largest: 7, At: 50}, {Floor: 9, Largest: 7, At: 50, Due: 60, Count: 1}} {
		h := &Heard{s}
		if f, ok := h.Ack(100); ok || !reflect.DeepEqual(f, api.Frame{}) || !same(h.HeardState, s) {
			t.Errorf("%+v: %+v, %v, %+v", s, f, ok, h)
		}
	}
}

// TestAckAgain: P12.2, behind an ACK the next ones are counted anew.
func TestAckAgain(t *testing.T) {
	h := &Heard{}
	h.Add(0, true, 100, 25)
	h.Add(1, true, 101, 25)
	h.Ack(102)
	if h.Ready(all64) {
		t.Fatal("an ACK is due behind an ACK")
	}
	h.Add(2, true, 103, 25)
	if h.Due != 128 || h.Count != 1 {
		t.Errorf("%+v", h)
	}
}

// TestForget: P12.3, Floor rises, and falls never; what is below it goes.
func TestForget(t *testing.T) {
	table := []struct {
		floor, below uint64
		l, want      []api.Range
		then         uint64
	}{
		{0, 0, rs(3, 5, 7, 9), rs(3, 5, 7, 9), 0}, {0, 3, rs(3, 5, 7, 9), rs(3, 5, 7, 9), 3}, {0, 4, rs(3, 5, 7, 9), rs(4, 5, 7, 9), 4},
		{0, 5, rs(3, 5, 7, 9), rs(7, 9), 5}, {0, 6, rs(3, 5, 7, 9), rs(7, 9), 6}, {0, 8, rs(3, 5, 7, 9), rs(8, 9), 8}, {0, 9, rs(3, 5, 7, 9), nil, 9},
		{0, 100, rs(3, 5, 7, 9), nil, 100}, {0, all64, rs(3, 5, 7, 9), nil, all64}, {0, all64 - 1, rs(all64-2, all64), rs(all64-1, all64), all64 - 1},
		{2, 0, rs(3, 5, 7, 9), rs(3, 5, 7, 9), 2}, {2, 1, rs(3, 5, 7, 9), rs(3, 5, 7, 9), 2}, {2, 2, rs(3, 5, 7, 9), rs(3, 5, 7, 9), 2}, {2, 8, rs(3, 5, 7, 9), rs(8, 9), 8},
		{0, 5, nil, nil, 5}, {5, 4, nil, nil, 5}, {5, 6, nil, nil, 6},
	}
	for _, x := range table {
		s := api.HeardState{L: x.l, Floor: x.floor, Largest: 8, At: 50, Due: 60, Count: 1}
		want := s
		want.L, want.Floor = x.want, x.then
		h := &Heard{s}
		if h.Forget(x.below); !same(h.HeardState, want) {
			t.Errorf("Floor %d, of %v, Forget(%d): %+v", x.floor, x.l, x.below, h)
		}
		if h.Forget(x.below); !same(h.HeardState, want) {
			t.Errorf("Floor %d, of %v, Forget(%d) twice: %+v", x.floor, x.l, x.below, h)
		}
	}
}

// TestForgotten: P12.3 and P12.4, what is forgotten is not new, whether it had come or not.
func TestForgotten(t *testing.T) {
	h := of(t, 3, 5, 9)
	h.Forget(7)
	for n := range uint64(7) {
		if !h.Came(n) || h.Add(n, true, 20, 0) {
			t.Errorf("%d is new", n)
		}
	}
	if h.Due != 0 || h.Count != 0 {
		t.Errorf("%+v", h)
	}
	if !h.Add(7, false, 20, 0) || !h.Add(8, false, 20, 0) || !slices.Equal(h.L, rs(7, 10)) || h.Largest != 9 || h.At != 10 {
		t.Errorf("%+v", h)
	}
}

// TestNil: of nil all came, and nothing is told.
func TestNil(t *testing.T) {
	var h *Heard
	h.Forget(5)
	for _, n := range []uint64{0, 5, api.MaxVar, all64} {
		if !h.Came(n) || h.Add(n, true, n, n) || h.Ready(n) {
			t.Errorf("%d of nil", n)
		}
		if f, ok := h.Ack(n); ok || !reflect.DeepEqual(f, api.Frame{}) {
			t.Errorf("Ack(%d) of nil: %+v", n, f)
		}
	}
}

// TestGreatest: R1 and P12.4, the number that is in no range is never new, so that it is not so twice.
func TestGreatest(t *testing.T) {
	for _, s := range []api.HeardState{{}, {L: rs(all64-1, all64), Largest: all64 - 1}, {Floor: all64}} {
		h := &Heard{s}
		if h.Add(all64, true, 100, 0) || !same(h.HeardState, s) {
			t.Errorf("%+v: %+v", s, h)
		}
	}
	h := &Heard{}
	h.Forget(all64)
	if h.Add(all64-1, true, 100, 0) || !h.Came(all64-1) {
		t.Errorf("%+v", h)
	}
}

// TestOwnMemory: R3, states that were taken before, and those that one stands in, are not written into; what is told is of its own memory.
func TestOwnMemory(t *testing.T) {
	l := append(make([]api.Range, 0, 200), ones(apart(10, MaxKept))...)
	first := slices.Clone(l)
	h := &Heard{api.HeardState{L: l, Largest: l[MaxKept-1].From}}
	f, _ := h.Ack(5)
	clear(f.Acks)
	for _, change := range []func(){
		func() { h.Add(9, true, 5, 5) },
		func() { h.Add(11, true, 5, 5) },
		func() { h.Add(5, true, 5, 5) },
		func() { h.Add(1<<40, true, 5, 5) },
		func() { h.Add(1<<41, true, 5, 5) },
		func() { h.Forget(20) },
		func() { h.Forget(20) },
		func() { h.Ack(7) },
	} {
		before := h.HeardState
		kept := slices.Clone(before.L)
		change()
		if !slices.Equal(before.L, kept) || !slices.Equal(l, first) {
			t.Fatal("a state that was taken has changed")
		}
	}
	for _, behind := range l[len(l):cap(l)] {
		if behind != (api.Range{}) {
			t.Fatal("something was written behind the state's list")
		}
	}
	one, _ := h.Ack(8)
	two, _ := h.Ack(8)
	clear(one.Acks)
	if reflect.DeepEqual(one, two) || !slices.Equal(two.Acks, h.L[len(h.L)-api.MaxAcks:]) {
		t.Error("two ACKs have a part together")
	}
}

// model is what was heard, word by word: all numbers that came and are not below floor, one by one.
type model struct {
	came               map[uint64]bool
	any                bool
	floor, largest, at uint64
	due, count         uint64
	told               map[uint64]bool // all that were ever handed in
}

// list is the neat list of the model's numbers.
func (m *model) list() []api.Range {
	var l []api.Range
	for _, n := range slices.Sorted(maps.Keys(m.came)) {
		if last := len(l) - 1; last >= 0 && l[last].To == n {
			l[last].To++
		} else {
			l = append(l, api.Range{From: n, To: n + 1})
		}
	}
	return l
}

// state is the model as a state.
func (m *model) state() api.HeardState {
	return api.HeardState{L: m.list(), Floor: m.floor, Largest: m.largest, At: m.at, Due: m.due, Count: m.count}
}

// forget is P12.3.
func (m *model) forget(below uint64) {
	m.floor = max(m.floor, below)
	maps.DeleteFunc(m.came, func(n uint64, _ bool) bool { return n < m.floor })
}

// add is P12.1.
func (m *model) add(pn uint64, wants bool, now, delay uint64) bool {
	if pn < m.floor || m.came[pn] {
		return false
	}
	behind := pn == m.largest+1
	if !m.any && m.floor == 0 {
		behind = true
	}
	if !m.any || pn > m.largest {
		m.largest, m.at = pn, now
	}
	m.any = true
	m.came[pn] = true
	if l := m.list(); len(l) > 64 {
		m.forget(l[1].From)
	}
	if wants {
		m.count++
		if m.count > 1 || delay == 0 || !behind {
			m.due = now
		} else if m.due == 0 {
			m.due = now + delay
		}
		m.due = max(m.due, 1)
	}
	return true
}

// ack is P12.2.
func (m *model) ack(now uint64) (api.Frame, bool) {
	l := m.list()
	if len(l) == 0 {
		return api.Frame{}, false
	}
	f := api.Frame{Kind: api.FrAck, Acks: l}
	if len(l) > 32 {
		f.Acks = l[len(l)-32:]
	}
	if now >= m.at {
		f.Delay = (now - m.at) / 8
	}
	m.due, m.count = 0, 0
	return f, true
}

// somePn is a number by chance, about where the greatest one is: in turn, a bit above, late, or one that came.
func somePn(r *rand.Rand, base, largest uint64, stride int) uint64 {
	top := max(base, largest)
	switch r.Intn(6) {
	case 0, 1:
		return min(top+1, all64-1)
	case 2, 3:
		return min(top+uint64(r.Intn(2*stride)), all64-1)
	default:
		return max(base, top-min(top, uint64(r.Intn(100*stride))))
	}
}

// TestChance: P12.1 to P12.4, calls by chance, with few gaps and many, held step by step against the model.
func TestChance(t *testing.T) {
	r := rand.New(rand.NewSource(12))
	left := 0
	for _, base := range []uint64{0, 1, 1<<32 - 200, api.MaxVar - 5000, all64 - 5000} {
		for _, stride := range []int{1, 2, 5} {
			for range 12 {
				left += chance(t, r, base, stride)
			}
		}
	}
	if left == 0 {
		t.Error("no range was ever left out")
	}
}

// chance does calls by chance, and answers how often a range too many was left out.
func chance(t *testing.T, r *rand.Rand, base uint64, stride int) (left int) {
	t.Helper()
	h, m := &Heard{}, &model{came: map[uint64]bool{}, told: map[uint64]bool{}}
	now := uint64(r.Intn(3))
	for range 400 {
		now += uint64(r.Intn(40))
		switch r.Intn(40) {
		case 0:
			below := somePn(r, base, h.Largest, stride)
			h.Forget(below)
			m.forget(below)
		case 1:
			acked(t, h, m, now-min(now, uint64(r.Intn(3)*r.Intn(60))))
		default:
			floor := m.floor
			told(t, h, m, somePn(r, base, h.Largest, stride), r.Intn(3) == 0, now, uint64(r.Intn(3)*25))
			if m.floor != floor {
				left++
			}
		}
		held(t, h, m, now)
	}
	return left
}

// told fails the test if Add is not the model's, or tells a number to be new again.
func told(t *testing.T, h *Heard, m *model, pn uint64, wants bool, now, delay uint64) {
	t.Helper()
	came := h.Came(pn)
	got, want := h.Add(pn, wants, now, delay), m.add(pn, wants, now, delay)
	if got != want || came == got || !h.Came(pn) {
		t.Fatalf("Add(%d) = %v, want %v; Came ahead of it %v", pn, got, want, came)
	}
	if got && m.told[pn] {
		t.Fatalf("%d is new again", pn)
	}
	m.told[pn] = true
}

// acked fails the test if Ack is not the model's, or tells a number that did not come.
func acked(t *testing.T, h *Heard, m *model, now uint64) {
	t.Helper()
	got, ok := h.Ack(now)
	want, wantOk := m.ack(now)
	if ok != wantOk || !reflect.DeepEqual(got, want) {
		t.Fatalf("Ack(%d) = %+v, %v, want %+v, %v", now, got, ok, want, wantOk)
	}
	for _, x := range got.Acks {
		for n := x.From; n < x.To; n++ {
			if !m.told[n] || !h.Came(n) {
				t.Fatalf("Ack tells %d, which did not come", n)
			}
		}
	}
}

// held fails the test if what was heard is not the model's, or more than may be kept.
func held(t *testing.T, h *Heard, m *model, now uint64) {
	t.Helper()
	if want := m.state(); !same(h.HeardState, want) {
		t.Fatalf("%+v, want %+v", h.HeardState, want)
	}
	if len(h.L) > 64 || !span.Neat(h.L) || len(h.L) > 0 && h.L[0].From < h.Floor {
		t.Fatalf("%+v", h.HeardState)
	}
	if got := h.Ready(now); got != (m.due != 0 && m.due <= now) {
		t.Fatalf("Ready(%d) = %v: %+v", now, got, h.HeardState)
	}
	for n := m.floor - min(m.floor, 3); n < m.floor+3 && n < all64; n++ {
		if h.Came(n) != (n < m.floor || m.came[n]) {
			t.Fatalf("Came(%d) = %v: %+v", n, h.Came(n), h.HeardState)
		}
	}
}

// TestMany: R1, many numbers, in turn and turned about, are taken up in good time.
func TestMany(t *testing.T) {
	const many = 200000
	h := &Heard{}
	for n := range uint64(many) {
		if !h.Add(n^1, n%2 == 0, n, 25) {
			t.Fatalf("%d is not new", n^1)
		}
	}
	if !slices.Equal(h.L, rs(0, many)) || h.Largest != many-1 || h.Count != many/2 {
		t.Errorf("%+v", h)
	}
}
