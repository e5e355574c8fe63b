package reno

import (
	"math"
	"math/big"
	"math/rand"
	"slices"
	"sort"
	"testing"
	"time"

	"hostler/api"
)

const (
	all64 = uint64(math.MaxUint64)
	huge  = uint64(1) << 62 // a window's first Threshold, and as much as sizes come to
	size1 = uint64(1) << 40 // what a size counts as at most
)

// state is a window's, in the order of its fields.
func state(window, threshold, flight, since uint64, recovering bool, acked uint64) api.RenoState {
	return api.RenoState{Window: window, Threshold: threshold, Flight: flight, Since: since, Recovering: recovering, Acked: acked}
}

// holds fails if the window's state is not this one.
func holds(t *testing.T, what any, r *Reno, want api.RenoState) {
	t.Helper()
	if r.RenoState != want {
		t.Errorf("%v: %+v, not %+v", what, r.RenoState, want)
	}
}

// change is a window's state, and what it must be behind a call.
type change struct{ from, to api.RenoState }

// changes fails for each of them that is otherwise behind the call.
func changes(t *testing.T, call func(*Reno), table []change) {
	t.Helper()
	for _, x := range table {
		r := &Reno{x.from}
		call(r)
		holds(t, x.from, r, x.to)
	}
}

// flights fails for each change of Flight that is otherwise; nothing else may be changed.
func flights(t *testing.T, call func(*Reno), table [][2]uint64) {
	t.Helper()
	for _, x := range table {
		changes(t, call, []change{
			{state(12000, huge, x[0], 0, false, 0), state(12000, huge, x[1], 0, false, 0)},
			{state(1, 2, x[0], 3, true, 4), state(1, 2, x[1], 3, true, 4)},
		})
	}
}

// TestExamples: the document's examples, one behind the other.
func TestExamples(t *testing.T) {
	r := New()
	if r.Window != 12000 || !r.May(12000) || r.May(12001) {
		t.Error(r.Window, r.May(12000), r.May(12001))
	}
	r.Sent(1200, 1200)
	r.Acked(5, 1200)
	if r.Flight != 1200 || r.Window != 13200 {
		t.Error(r.Flight, r.Window)
	}
	for _, x := range [][3]uint64{{7, 9, 6600}, {8, 10, 6600}, {10, 12, 3300}} {
		if r.Lost(x[0], x[1]); r.Window != x[2] {
			t.Errorf("Lost(%d, %d): Window is %d, not %d", x[0], x[1], r.Window, x[2])
		}
	}
}

// TestNew: P14.1, ten Units, and nothing else; each window is one of its own.
func TestNew(t *testing.T) {
	if Unit != 1200 {
		t.Error("Unit:", Unit)
	}
	a, b := New(), New()
	holds(t, "New", a, state(12000, huge, 0, 0, false, 0))
	a.Sent(1200)
	a.Lost(1, 2)
	holds(t, "another one", b, state(12000, huge, 0, 0, false, 0))
	holds(t, "one made later", New(), state(12000, huge, 0, 0, false, 0))
}

// TestMay: P14.1, Flight and size together are at most Window; a size counts as at most 2^40.
func TestMay(t *testing.T) {
	table := []struct {
		window, flight, size uint64
		want                 bool
	}{
		{12000, 0, 0, true}, {12000, 0, 1200, true}, {12000, 10800, 1200, true}, {12000, 10801, 1200, false}, {12000, 10800, 1201, false},
		{12000, 12000, 0, true}, {12000, 12000, 1, false}, {12000, 12001, 0, false}, {12000, 12001, all64, false}, {12000, huge, 0, false},
		{12000, 0, all64, false}, {12000, 2, all64, false}, {12000, 12000, 1 << 63, false}, {0, 0, 0, true}, {0, 0, 1, false}, {0, 1, 0, false},
		{size1, 0, size1, true}, {size1, 0, size1 + 1, true}, {size1, 0, all64, true}, {size1, 1, size1, false}, {size1, 1, all64, false},
		{size1 - 1, 0, size1, false}, {size1 - 1, 0, all64, false}, {size1 - 1, 0, size1 - 1, true}, {size1 + 5, 5, 1 << 62, true}, {size1 + 5, 6, 1 << 62, false},
		{huge, huge, 0, true}, {huge, huge, 1, false}, {huge, huge - size1, all64, true}, {huge, huge - size1 + 1, all64, false},
		{all64, all64, 0, true}, {all64, all64, 1, false}, {all64, all64, all64, false}, {all64, all64 - 1, 1, true}, {5, all64, 6, false}, {5, all64 - 5, 1200, false},
	}
	for _, x := range table {
		r := &Reno{state(x.window, 7, x.flight, 9, true, 11)}
		if r.May(x.size) != x.want || r.May(x.size) != x.want {
			t.Errorf("%+v: May(%d) is not %v", r, x.size, x.want)
		}
		holds(t, "asked", r, state(x.window, 7, x.flight, 9, true, 11))
	}
}

// TestMayAsNext: P14.1, what is on its way hangs on Flight alone: not on losses that are recovered from.
func TestMayAsNext(t *testing.T) {
	r := New()
	for range 10 {
		if !r.May(1200) {
			t.Fatal(r)
		}
		r.Sent(1200)
	}
	if r.May(1) || !r.May(0) {
		t.Error(r)
	}
	r.Lost(1, 2)
	if r.May(0) {
		t.Error("the window fell below what is on its way:", r)
	}
	r.Gone(6000)
	if !r.May(0) || r.May(1) {
		t.Error(r)
	}
}

// TestSent: P14.1, more by all of the sizes, each of which counts as at most 2^40; 2^62 at most.
func TestSent(t *testing.T) {
	flights(t, func(r *Reno) { r.Sent() }, [][2]uint64{{0, 0}, {1200, 1200}, {huge, huge}})
	flights(t, func(r *Reno) { r.Sent([]uint64{}...) }, [][2]uint64{{0, 0}, {5, 5}})
	flights(t, func(r *Reno) { r.Sent(0) }, [][2]uint64{{0, 0}, {1200, 1200}, {huge, huge}})
	flights(t, func(r *Reno) { r.Sent(1200) }, [][2]uint64{{0, 1200}, {1, 1201}, {12000, 13200}, {huge - 1201, huge - 1}, {huge - 1200, huge}, {huge - 1199, huge}, {huge, huge}})
	flights(t, func(r *Reno) { r.Sent(1, 20, 300, 4000) }, [][2]uint64{{0, 4321}, {50000, 54321}, {huge - 4321, huge}, {huge - 4322, huge - 1}})
	flights(t, func(r *Reno) { r.Sent(size1) }, [][2]uint64{{0, size1}, {7, size1 + 7}})
	flights(t, func(r *Reno) { r.Sent(size1 + 1) }, [][2]uint64{{0, size1}, {7, size1 + 7}})
	flights(t, func(r *Reno) { r.Sent(size1-1, 1) }, [][2]uint64{{0, size1}})
	flights(t, func(r *Reno) { r.Sent(size1, 1) }, [][2]uint64{{0, size1 + 1}})
	flights(t, func(r *Reno) { r.Sent(all64, all64, 3) }, [][2]uint64{{0, 2*size1 + 3}, {7, 2*size1 + 10}, {huge - 1, huge}, {all64, huge}, {all64 - size1, huge}})
}

// TestGone: P14.1, less by all of the sizes, each of which counts as at most 2^40; 0 at least.
func TestGone(t *testing.T) {
	flights(t, func(r *Reno) { r.Gone() }, [][2]uint64{{0, 0}, {1200, 1200}, {huge, huge}})
	flights(t, func(r *Reno) { r.Gone([]uint64{}...) }, [][2]uint64{{0, 0}, {5, 5}})
	flights(t, func(r *Reno) { r.Gone(0) }, [][2]uint64{{0, 0}, {1200, 1200}, {huge, huge}})
	flights(t, func(r *Reno) { r.Gone(1200) }, [][2]uint64{{0, 0}, {1199, 0}, {1200, 0}, {1201, 1}, {13200, 12000}, {huge, huge - 1200}})
	flights(t, func(r *Reno) { r.Gone(1, 20, 300, 4000) }, [][2]uint64{{4320, 0}, {4321, 0}, {4322, 1}, {54321, 50000}, {300, 0}})
	flights(t, func(r *Reno) { r.Gone(size1) }, [][2]uint64{{size1 - 1, 0}, {size1, 0}, {size1 + 7, 7}, {huge, huge - size1}})
	flights(t, func(r *Reno) { r.Gone(size1 + 1) }, [][2]uint64{{size1, 0}, {size1 + 7, 7}, {huge, huge - size1}})
	flights(t, func(r *Reno) { r.Gone(all64, all64, 3) }, [][2]uint64{{0, 0}, {2*size1 + 3, 0}, {2*size1 + 10, 7}, {huge, huge - 2*size1 - 3}, {all64, huge}})
}

// TestManySizes: P14.1, so many sizes that their sum is above all numbers of 64 bits.
func TestManySizes(t *testing.T) {
	l := slices.Repeat([]uint64{all64}, 1<<22)
	r := New()
	r.Sent(l[1:]...)
	holds(t, "one less", r, state(12000, huge, huge-size1, 0, false, 0))
	for range 5 {
		r.Sent(l...)
		holds(t, "Sent", r, state(12000, huge, huge, 0, false, 0))
	}
	r.Gone(l[1:]...)
	holds(t, "Gone", r, state(12000, huge, size1, 0, false, 0))
	for range 5 {
		r.Gone(l...)
		holds(t, "all gone", r, state(12000, huge, 0, 0, false, 0))
	}
}

// TestSizesStay: R3, the sizes that are handed in are not changed, nor kept.
func TestSizesStay(t *testing.T) {
	l := []uint64{1200, all64, 0, size1 + 1}
	was := slices.Clone(l)
	r := New()
	r.Sent(l...)
	r.Gone(l...)
	if !slices.Equal(l, was) {
		t.Error(l)
	}
	r.Sent(l[:1]...)
	l[0] = 5
	if r.Flight != 1200 {
		t.Error(r)
	}
}

// TestStart: P14.2, below Threshold the window is more by size; 2^62 at most. (Acked is left there.)
func TestStart(t *testing.T) {
	changes(t, func(r *Reno) { r.Acked(5, 1200) }, []change{
		{state(12000, huge, 2400, 0, false, 0), state(13200, huge, 1200, 0, false, 0)},
		{state(12000, huge, 0, 0, false, 0), state(13200, huge, 0, 0, false, 0)},
		{state(12000, huge, 1199, 0, false, 0), state(13200, huge, 0, 0, false, 0)},
		{state(12000, 12001, 1201, 0, false, 77), state(13200, 12001, 1, 0, false, 77)},
		{state(12000, 12001, 1201, 0, false, all64), state(13200, 12001, 1, 0, false, all64)},
		{state(huge-1201, huge, 5000, 0, false, 0), state(huge-1, huge, 3800, 0, false, 0)},
		{state(huge-1200, huge, 5000, 0, false, 0), state(huge, huge, 3800, 0, false, 0)},
		{state(huge-1, huge, 5000, 0, false, 0), state(huge, huge, 3800, 0, false, 0)},
		{state(huge-1, all64, 5000, 0, false, 0), state(huge, all64, 3800, 0, false, 0)},
		{state(huge, all64, 5000, 0, false, 0), state(huge, all64, 3800, 0, false, 0)},
		{state(all64-1, all64, 5000, 0, false, 0), state(huge, all64, 3800, 0, false, 0)},
	})
	changes(t, func(r *Reno) { r.Acked(5, 0) }, []change{
		{state(12000, huge, 2400, 9, false, 0), state(12000, huge, 2400, 9, false, 0)},
		{state(12000, huge, 2400, 4, true, 0), state(12000, huge, 2400, 4, false, 0)},
	})
	changes(t, func(r *Reno) { r.Acked(all64, all64) }, []change{
		{state(12000, huge, size1+3, 0, false, 0), state(12000+size1, huge, 3, 0, false, 0)},
		{state(12000, 12001, size1, 0, false, 0), state(12000+size1, 12001, 0, 0, false, 0)},
		{state(huge-size1-1, huge, huge, 0, false, 0), state(huge-1, huge, huge-size1, 0, false, 0)},
		{state(huge-size1+1, huge, huge, 0, false, 0), state(huge, huge, huge-size1, 0, false, 0)},
	})
}

// TestAvoid: P14.2, from Threshold on Acked is more by size, and the window a Unit for each Window of it.
func TestAvoid(t *testing.T) {
	changes(t, func(r *Reno) { r.Acked(5, 1200) }, []change{
		{state(6600, 6600, 2400, 0, false, 0), state(6600, 6600, 1200, 0, false, 1200)},
		{state(6601, 6600, 2400, 0, false, 0), state(6601, 6600, 1200, 0, false, 1200)},
		{state(6600, 6600, 2400, 0, false, 5399), state(6600, 6600, 1200, 0, false, 6599)},
		{state(6600, 6600, 2400, 0, false, 5400), state(7800, 6600, 1200, 0, false, 0)},
		{state(6600, 6600, 2400, 0, false, 5401), state(7800, 6600, 1200, 0, false, 1)},
		{state(6600, 6600, 2400, 0, false, 6600), state(7800, 6600, 1200, 0, false, 1200)},
		{state(6600, 6600, 2400, 0, false, 6600+7800), state(9000, 6600, 1200, 0, false, 1200)},
		{state(6600, 6600, 2400, 0, false, 6600+7800-1200), state(9000, 6600, 1200, 0, false, 0)},
		{state(2400, 2400, 2400, 0, false, 1200), state(3600, 2400, 1200, 0, false, 0)},
		{state(2400, 0, 0, 0, false, 1200), state(3600, 0, 0, 0, false, 0)},
		{state(huge, huge, 0, 0, false, 0), state(huge, huge, 0, 0, false, 1200)},
		{state(huge, huge, 0, 0, false, huge-1199), state(huge+1200, huge, 0, 0, false, 1)},
	})
	changes(t, func(r *Reno) { r.Acked(5, 2400+3600+4800) }, []change{
		{state(2400, 2400, 0, 0, false, 0), state(6000, 2400, 0, 0, false, 0)},
		{state(2400, 2400, 0, 0, false, 5999), state(6000, 2400, 0, 0, false, 5999)},
		{state(2400, 2400, 0, 0, false, 6000), state(7200, 2400, 0, 0, false, 0)},
	})
	changes(t, func(r *Reno) { r.Acked(5, 0) }, []change{
		{state(6600, 6600, 7, 0, false, 6599), state(6600, 6600, 7, 0, false, 6599)},
		{state(6600, 6600, 7, 0, false, 6600), state(7800, 6600, 7, 0, false, 0)},
		{state(6600, 6600, 7, 4, true, 6600), state(7800, 6600, 7, 4, false, 0)},
	})
	changes(t, func(r *Reno) { r.Acked(5, all64) }, []change{
		{state(size1, 0, size1+1, 0, false, 0), state(size1+1200, 0, 1, 0, false, 0)},
		{state(size1, 0, size1-1, 0, false, 1), state(size1+1200, 0, 0, 0, false, 1)},
		{state(size1+1, 0, 0, 0, false, 0), state(size1+1, 0, 0, 0, false, size1)},
	})
}

// TestAckedOfRecovery: P14.2, what was sent up to Since only is on its way no more; what was sent later ends the recovery.
func TestAckedOfRecovery(t *testing.T) {
	for _, x := range []struct {
		at, since uint64
		of        bool
	}{
		{8, 9, true}, {9, 9, true}, {10, 9, false}, {0, 0, true}, {1, 0, false}, {0, 9, true}, {0, all64, true},
		{all64, all64, true}, {all64, all64 - 1, false}, {all64 - 1, all64, true}, {1 << 63, 1<<63 - 1, false},
	} {
		for _, from := range []api.RenoState{state(6600, 6600, 2400, x.since, true, 5400), state(5000, 6600, 2400, x.since, true, 3)} {
			same, grown := from, &Reno{from}
			same.Flight -= 1200
			grown.Recovering = false
			grown.Acked(x.at, 1200)
			if grown.RenoState == same || grown.Window == from.Window {
				t.Fatalf("%+v does not grow", grown)
			}
			want := grown.RenoState
			if x.of {
				want = same
			}
			changes(t, func(r *Reno) { r.Acked(x.at, 1200) }, []change{{from, want}})
		}
	}
}

// TestSinceIsNothing: P14.2 and P14.3, as long as nothing is recovered from Since counts for nothing.
func TestSinceIsNothing(t *testing.T) {
	changes(t, func(r *Reno) { r.Acked(5, 1200) }, []change{{state(12000, huge, 1200, 9, false, 0), state(13200, huge, 0, 9, false, 0)}})
	changes(t, func(r *Reno) { r.Lost(5, 20) }, []change{{state(12000, huge, 1200, 9, false, 0), state(6000, 6000, 1200, 20, true, 0)}})
}

// TestLost: P14.3, the window and its Threshold are half of the window, cut, two Units at least; Flight stays.
func TestLost(t *testing.T) {
	for _, x := range [][2]uint64{
		{12000, 6000}, {13200, 6600}, {13201, 6600}, {13199, 6599}, {4802, 2401}, {4801, 2400}, {4800, 2400}, {4799, 2400}, {2401, 2400}, {2400, 2400},
		{1200, 2400}, {1, 2400}, {0, 2400}, {huge, huge / 2}, {huge + 1200, huge/2 + 600}, {all64, 1<<63 - 1},
	} {
		changes(t, func(r *Reno) { r.Lost(7, 9) }, []change{
			{state(x[0], huge, 1200, 0, false, 0), state(x[1], x[1], 1200, 9, true, 0)},
			{state(x[0], 5, 1200, 100, false, 77), state(x[1], x[1], 1200, 9, true, 0)},
			{state(x[0], all64, huge, 6, true, all64), state(x[1], x[1], huge, 9, true, 0)},
			{state(x[0], all64, all64, 7, true, 77), state(x[0], all64, all64, 7, true, 77)},
			{state(x[0], 0, 0, 8, true, x[0]), state(x[0], 0, 0, 8, true, x[0])},
		})
	}
}

// TestLostAt: P14.3, whatever ticks: a recovery begins now, also if that is ahead of what was lost.
func TestLostAt(t *testing.T) {
	for _, x := range []struct {
		since, at, now uint64
		of             bool
	}{
		{9, 8, 30, true}, {9, 9, 30, true}, {9, 10, 30, false}, {0, 0, 30, true}, {0, 1, 30, false}, {9, 10, 10, false}, {9, 10, 3, false}, {9, all64, 0, false},
		{all64, all64, 30, true}, {all64 - 1, all64, all64, false}, {all64, 0, 0, true}, {1 << 63, 1<<63 - 1, 30, true}, {1<<63 - 1, 1 << 63, 30, false},
	} {
		from := state(12000, huge, 1200, x.since, true, 5)
		want := from
		if !x.of {
			want = state(6000, 6000, 1200, x.now, true, 0)
		}
		changes(t, func(r *Reno) { r.Lost(x.at, x.now) }, []change{{from, want}})
	}
}

// TestWorst: P14.3, two Units, whatever stood there; Threshold, Flight and Since stay.
func TestWorst(t *testing.T) {
	changes(t, (*Reno).Worst, []change{
		{state(12000, huge, 1200, 0, false, 0), state(2400, huge, 1200, 0, false, 0)},
		{state(6600, 6600, huge, 9, true, 77), state(2400, 6600, huge, 9, false, 0)},
		{state(2400, 2400, 0, 9, true, all64), state(2400, 2400, 0, 9, false, 0)},
		{state(0, 0, 0, 0, false, 0), state(2400, 0, 0, 0, false, 0)},
		{state(all64, all64, all64, all64, true, all64), state(2400, all64, all64, all64, false, 0)},
	})
}

// TestBehindWorst: P14.2 and P14.3, behind the worst the window grows by sizes up to Threshold again, and a loss is one of no recovery.
func TestBehindWorst(t *testing.T) {
	r := New()
	r.Lost(7, 9)
	r.Worst()
	for _, want := range []uint64{3600, 4800, 6000, 6000, 6000, 6000, 6000, 7200} {
		if r.Acked(1, 1200); r.Window != want {
			t.Errorf("%d, not %d", r.Window, want)
		}
	}
	r.Worst()
	r.Lost(1, 20)
	holds(t, "lost", r, state(2400, 2400, 0, 20, true, 0))
}

// TestOnceARecovery: P14.4, of all the losses of a recovery one makes the window fall.
func TestOnceARecovery(t *testing.T) {
	r := New()
	for _, x := range []struct{ at, now, window uint64 }{
		{1, 10, 6000}, {2, 11, 6000}, {10, 12, 6000}, {3, 13, 6000}, {11, 14, 3000}, {12, 15, 3000}, {14, 16, 3000}, {15, 17, 2400}, {18, 19, 2400},
	} {
		if r.Lost(x.at, x.now); r.Window != x.window {
			t.Errorf("Lost(%d, %d): %d, not %d", x.at, x.now, r.Window, x.window)
		}
		r.Acked(x.at, 0)
	}
	r = New()
	r.Lost(1, 10)
	r.Acked(11, 0)
	if r.Lost(2, 12); r.Window != 3000 {
		t.Error("the recovery was over:", r)
	}
}

// TestOfNil: true of May, and nothing else.
func TestOfNil(t *testing.T) {
	var r *Reno
	for _, n := range []uint64{0, 1, 12001, huge, all64} {
		if !r.May(n) {
			t.Error(n)
		}
		r.Sent(n, n)
		r.Gone(n, n)
		r.Acked(n, n)
		r.Lost(n, n)
	}
	r.Sent()
	r.Gone()
	r.Worst()
}

// TestGoesOn: a window is its state alone: one that is made of another one's state goes on as that.
func TestGoesOn(t *testing.T) {
	a := New()
	a.Sent(1200, 1200, 1200)
	a.Lost(1, 9)
	b := &Reno{a.RenoState}
	for _, r := range []*Reno{a, b} {
		r.Acked(10, 7000)
		r.Sent(5)
		r.Lost(9, 11)
	}
	holds(t, "the copy", b, a.RenoState)
	holds(t, "both", a, state(3600, 3600, 5, 11, true, 0))
}

// TestLongAvoid: R1, many Units at once, also of a window that is none yet.
func TestLongAvoid(t *testing.T) {
	begun := time.Now()
	r := &Reno{}
	r.Acked(1, all64)
	n := r.Window / Unit
	if paid := Unit * n * (n - 1) / 2; paid > size1 || paid+r.Window <= size1 || r.RenoState.Acked != size1-paid {
		t.Errorf("%+v", r)
	}
	r = &Reno{state(0, 0, 0, 0, false, all64)}
	r.Acked(1, 0)
	n = r.Window / Unit
	if paid := Unit / 2 * n * (n - 1); r.RenoState.Acked != all64-paid || r.RenoState.Acked >= r.Window {
		t.Errorf("%+v", r)
	}
	if took := time.Since(begun); took > 30*time.Second {
		t.Error("too long:", took)
	}
}

// model is a window by the document's words, in numbers without an end.
type model struct {
	window, threshold, flight, acked *big.Int
	since                            uint64
	recovering                       bool
}

func num(n uint64) *big.Int { return new(big.Int).SetUint64(n) }

func sum(a, b *big.Int) *big.Int { return new(big.Int).Add(a, b) }

func less(a, b *big.Int) *big.Int { return new(big.Int).Sub(a, b) }

func bounded(n *big.Int) *big.Int {
	if n.Sign() < 0 {
		return num(0)
	}
	if n.Cmp(num(huge)) > 0 {
		return num(huge)
	}
	return n
}

func sizes(l []uint64) *big.Int {
	all := num(0)
	for _, n := range l {
		all = sum(all, num(min(n, size1)))
	}
	return all
}

func modelOf(s api.RenoState) *model {
	return &model{num(s.Window), num(s.Threshold), num(s.Flight), num(s.Acked), s.Since, s.Recovering}
}

func (m *model) may(size uint64) bool {
	return sum(m.flight, sizes([]uint64{size})).Cmp(m.window) <= 0
}

func (m *model) ack(at, size uint64) {
	m.flight = bounded(less(m.flight, sizes([]uint64{size})))
	if m.recovering && at <= m.since {
		return
	}
	m.recovering = false
	if m.window.Cmp(m.threshold) < 0 {
		m.window = bounded(sum(m.window, sizes([]uint64{size})))
		return
	}
	m.acked = sum(m.acked, sizes([]uint64{size}))
	n := uint64(sort.Search(1<<32, func(n int) bool { return m.paid(uint64(n)+1).Cmp(m.acked) > 0 }))
	m.acked, m.window = less(m.acked, m.paid(n)), sum(m.window, num(1200*n))
}

// paid is what so many Units more cost: the window's bytes, and 1200 more for each Unit ahead of it.
func (m *model) paid(n uint64) *big.Int {
	if n == 0 {
		return num(0)
	}
	each := new(big.Int).Mul(num(n), num(600*(n-1)))
	return each.Add(each, new(big.Int).Mul(num(n), m.window))
}

func (m *model) lost(at, now uint64) {
	if m.recovering && at <= m.since {
		return
	}
	m.recovering, m.since, m.acked = true, now, num(0)
	m.window = new(big.Int).Rsh(m.window, 1)
	if m.window.Cmp(num(2400)) < 0 {
		m.window = num(2400)
	}
	m.threshold = m.window
}

func (m *model) worst() {
	m.window, m.recovering, m.acked = num(2400), false, num(0)
}

// some is a number by chance: small, at an edge, or of any size.
func some(by *rand.Rand, near ...uint64) uint64 {
	switch by.Intn(8) {
	case 0:
		return []uint64{0, 1, 1200, 2400, size1 - 1, size1, size1 + 1, huge - 1, huge, huge + 1, all64}[by.Intn(11)]
	case 1, 2, 3:
		return uint64(by.Intn(3000))
	case 4, 5:
		if len(near) > 0 {
			return near[by.Intn(len(near))] + uint64(by.Intn(3)) - 1
		}
	}
	return by.Uint64() >> by.Intn(64)
}

// act does one thing by chance to the window and to the model.
func act(by *rand.Rand, r *Reno, m *model) {
	l := make([]uint64, by.Intn(4))
	for i := range l {
		l[i] = some(by)
	}
	at, now, size := some(by, r.Since), some(by, r.Since), some(by, r.Window, r.Window-r.RenoState.Acked)
	switch by.Intn(12) {
	case 0, 1:
		r.Sent(l...)
		m.flight = bounded(sum(m.flight, sizes(l)))
	case 2, 3:
		r.Gone(l...)
		m.flight = bounded(less(m.flight, sizes(l)))
	case 4, 5, 6, 7, 8:
		r.Acked(at, size)
		m.ack(at, size)
	case 9, 10:
		r.Lost(at, now)
		m.lost(at, now)
	default:
		r.Worst()
		m.worst()
	}
}

// alike fails if the window and the model tell unlike things.
func alike(t *testing.T, by *rand.Rand, r *Reno, m *model) {
	t.Helper()
	for _, x := range []struct {
		got  uint64
		want *big.Int
	}{{r.Window, m.window}, {r.Threshold, m.threshold}, {r.Flight, m.flight}, {r.RenoState.Acked, m.acked}} {
		if num(x.got).Cmp(x.want) != 0 {
			t.Fatalf("%+v, not %+v", r, m)
		}
	}
	if r.Since != m.since || r.Recovering != m.recovering {
		t.Fatalf("%+v, not %+v", r, m)
	}
	if n := some(by, r.Window-r.Flight); r.May(n) != m.may(n) {
		t.Fatalf("%+v: May(%d) is %v", r, n, r.May(n))
	}
}

// TestModel: P14.1 to P14.4, calls by chance against the model, step by step; of windows that begin here.
func TestModel(t *testing.T) {
	by := rand.New(rand.NewSource(14))
	for range 100 {
		r := New()
		m := modelOf(r.RenoState)
		alike(t, by, r, m)
		for range 40 {
			was, recovered := r.Window, r.Recovering
			act(by, r, m)
			alike(t, by, r, m)
			if r.Window < 2400 || r.Window < was && r.Window != 2400 && (!r.Recovering || r.Window != was/2) {
				t.Fatalf("%+v, behind a window of %d, %v", r, was, recovered)
			}
		}
	}
}

// TestStates: P14.1 to P14.3, of states whose numbers are any: no sum wraps round.
func TestStates(t *testing.T) {
	by := rand.New(rand.NewSource(140))
	for range 20000 {
		s := state(some(by), some(by), some(by), some(by), by.Intn(2) == 0, some(by))
		if s.Window < 1<<50 || s.Window > all64-1<<20 {
			s.Acked >>= 24 // else it takes long, or the model goes beyond 64 bits
		}
		r := &Reno{s}
		m := modelOf(s)
		alike(t, by, r, m)
		act(by, r, m)
		alike(t, by, r, m)
	}
}

// TestBeyond: R1, a window at the end of all numbers does not fall when bytes come.
func TestBeyond(t *testing.T) {
	changes(t, func(r *Reno) { r.Acked(1, 10) }, []change{
		{state(all64, 0, 0, 0, false, all64), state(all64, 0, 0, 0, false, 10)},
		{state(all64, 0, 0, 0, false, all64-10), state(all64, 0, 0, 0, false, 0)},
		{state(all64, 0, 0, 0, false, all64-11), state(all64, 0, 0, 0, false, all64-1)},
		{state(all64-1200, 0, 0, 0, false, all64-1205), state(all64, 0, 0, 0, false, 5)},
		{state(all64-1199, 0, 0, 0, false, all64-1205), state(all64, 0, 0, 0, false, 4)},
	})
}

// TestSentAndGone: P14.4, what was sent and is gone, in whatever order and parts, leaves Flight as it was.
func TestSentAndGone(t *testing.T) {
	by := rand.New(rand.NewSource(1400))
	r := New()
	for range 500 {
		was := uint64(by.Intn(1 << 40))
		r.Flight = was
		l := make([]uint64, by.Intn(20))
		for i := range l {
			l[i] = some(by)
		}
		r.Sent(l...)
		by.Shuffle(len(l), func(i, j int) { l[i], l[j] = l[j], l[i] })
		for len(l) > 0 {
			n := 1 + by.Intn(len(l))
			if n == 1 && by.Intn(2) == 0 {
				r.Acked(0, l[0])
			} else {
				r.Gone(l[:n]...)
			}
			l = l[n:]
		}
		if r.Flight != was {
			t.Fatalf("%d, not %d", r.Flight, was)
		}
	}
}
