package rtt

import (
	"math"
	"math/big"
	"math/rand"
	"testing"

	"hostler/api"
)

// all64 is the greatest number of 64 bits.
const all64 = uint64(math.MaxUint64)

// of is the way of which this is known.
func of(latest, least, smooth, vary uint64) *Rtt {
	return &Rtt{api.RttState{Has: true, Latest: latest, Min: least, Smooth: smooth, Var: vary}}
}

// taken is a way behind these samples, each of which is a latest and a delay.
func taken(l ...[2]uint64) *Rtt {
	r := &Rtt{}
	for _, x := range l {
		r.Sample(x[0], x[1])
	}
	return r
}

// holds fails if the way's state is not this one.
func holds(t *testing.T, what any, r *Rtt, want *Rtt) {
	t.Helper()
	if r.RttState != want.RttState {
		t.Errorf("%v: %+v, not %+v", what, r.RttState, want.RttState)
	}
}

// TestExamples: the document's examples, one behind the other.
func TestExamples(t *testing.T) {
	r := &Rtt{}
	if r.Pto(0, 0) != 999000 {
		t.Error("Pto of none:", r.Pto(0, 0))
	}
	r.Sample(1000, 0)
	holds(t, "the first line", r, of(1000, 1000, 1000, 500))
	r.Sample(1800, 500)
	holds(t, "the second line", r, of(1800, 1000, 1037, 450))
	if r.Pto(25, 0) != 2862 || r.Pto(25, 2) != 11448 || r.Loss() != 2025 {
		t.Error(r.Pto(25, 0), r.Pto(25, 2), r.Loss())
	}
}

// TestConstants: what the document says of them.
func TestConstants(t *testing.T) {
	if First != 333000 || Grain != 1000 || MaxTicks != 1<<40 {
		t.Error(First, Grain, MaxTicks)
	}
}

// TestFirst: P13.1, the first sample is taken as it is, whatever its delay, and whatever stood there.
func TestFirst(t *testing.T) {
	for _, x := range []struct{ latest, is uint64 }{
		{0, 0}, {1, 1}, {2, 2}, {3, 3}, {999, 999}, {1000, 1000}, {333000, 333000}, {MaxTicks - 1, MaxTicks - 1},
		{MaxTicks, MaxTicks}, {MaxTicks + 1, MaxTicks}, {1 << 62, MaxTicks}, {all64, MaxTicks},
	} {
		for _, delay := range []uint64{0, 1, 500, x.latest, MaxTicks, all64} {
			for _, left := range []api.RttState{{}, {Latest: 5, Min: 6, Smooth: 7, Var: 8}} {
				r := &Rtt{left}
				r.Sample(x.latest, delay)
				holds(t, x.latest, r, of(x.is, x.is, x.is, x.is/2))
			}
		}
	}
}

// TestZeroIsKnown: P13.1, that a first sample was 0 is something that is known.
func TestZeroIsKnown(t *testing.T) {
	r := taken([2]uint64{0, 0})
	if r.Pto(0, 0) != Grain || r.Loss() != Grain {
		t.Error(r.Pto(0, 0), r.Loss())
	}
	r.Sample(800, 0)
	holds(t, "behind 0", r, of(800, 0, 100, 200))
}

// TestLater: P13.1, later samples; the delay is taken off as long as Min, as it is then, is left.
func TestLater(t *testing.T) {
	table := []struct {
		r             *Rtt
		latest, delay uint64
		want          *Rtt
	}{
		{of(1000, 1000, 1000, 500), 1800, 0, of(1800, 1000, 1100, 575)},
		{of(1000, 1000, 1000, 500), 1800, 799, of(1800, 1000, 1000, 375)},
		{of(1000, 1000, 1000, 500), 1800, 800, of(1800, 1000, 1000, 375)},
		{of(1000, 1000, 1000, 500), 1800, 801, of(1800, 1000, 1100, 575)},
		{of(1000, 1000, 1000, 500), 1800, all64, of(1800, 1000, 1100, 575)},
		{of(1000, 1000, 1000, 500), 1000, 0, of(1000, 1000, 1000, 375)},
		{of(1000, 1000, 1000, 500), 1000, 1, of(1000, 1000, 1000, 375)},
		{of(1000, 1000, 1000, 500), 600, 0, of(600, 600, 950, 475)},
		{of(1000, 1000, 1000, 500), 600, 1, of(600, 600, 950, 475)},
		{of(1000, 600, 1000, 500), 1400, 800, of(1400, 600, 950, 475)},
		{of(1000, 600, 1000, 500), 1400, 801, of(1400, 600, 1050, 475)},
		{of(1000, 0, 1000, 500), 400, 400, of(400, 0, 875, 625)},
		{of(1000, 0, 1000, 500), 400, 401, of(400, 0, 925, 525)},
		{of(1000, 1000, 1000, 500), 0, 0, of(0, 0, 875, 625)},
		{of(5, 5, 5, 3), 6, 0, of(6, 5, 5, 2)},
		{of(5, 5, 5, 3), 12, 0, of(12, 5, 5, 4)},
		{of(5, 5, 5, 3), 13, 0, of(13, 5, 6, 4)},
		{of(5, 3, 5, 3), 4, 0, of(4, 3, 4, 2)},
		{of(5, 3, 5, 0), 2, 0, of(2, 2, 4, 0)},
		{of(5, 3, 5, 0), 1, 0, of(1, 1, 4, 1)},
		{of(0, 0, 0, 0), 0, 0, of(0, 0, 0, 0)},
		{of(0, 0, 0, 0), 7, 0, of(7, 0, 0, 1)},
		{of(0, 0, 0, 0), 8, 0, of(8, 0, 1, 2)},
	}
	for _, x := range table {
		was := x.r.RttState
		x.r.Sample(x.latest, x.delay)
		holds(t, []any{was, x.latest, x.delay}, x.r, x.want)
	}
}

// TestMost: P13.1, what is handed in above MaxTicks counts as MaxTicks.
func TestMost(t *testing.T) {
	for _, more := range []uint64{MaxTicks, MaxTicks + 1, 1 << 62, 1 << 63, all64} {
		r := of(1000, 0, 1000, 500)
		r.Sample(more, 0)
		holds(t, more, r, of(MaxTicks, 0, (7000+MaxTicks)/8, (1500+MaxTicks-1000)/4))
		r = of(1000, 0, 1000, 500)
		r.Sample(more, more)
		holds(t, "both", r, of(MaxTicks, 0, 875, 625))
		r = of(1000, 1, 1000, 500)
		r.Sample(more, more)
		holds(t, "both, above Min", r, of(MaxTicks, 1, (7000+MaxTicks)/8, (1500+MaxTicks-1000)/4))
		r = of(MaxTicks, MaxTicks, MaxTicks, MaxTicks)
		r.Sample(more, 0)
		holds(t, "of the greatest", r, of(MaxTicks, MaxTicks, MaxTicks, 3*MaxTicks/4))
	}
}

// wait is what Pto is asked of a way, and what it must answer.
type wait struct {
	r            *Rtt
	delay, times uint64
	want         uint64
}

// ptos fails for each of them that is answered otherwise.
func ptos(t *testing.T, table []wait) {
	t.Helper()
	for _, x := range table {
		if got := x.r.Pto(x.delay, x.times); got != x.want {
			t.Errorf("%+v: Pto(%d, %d): %d, not %d", x.r, x.delay, x.times, got, x.want)
		}
	}
}

// TestPto: P13.2, the sum's parts, each at its edges.
func TestPto(t *testing.T) {
	ptos(t, []wait{
		{of(1, 1, 1000, 249), 0, 0, 2000}, {of(1, 1, 1000, 250), 0, 0, 2000}, {of(1, 1, 1000, 251), 0, 0, 2004},
		{of(1, 1, 0, 0), 0, 0, 1000}, {of(1, 1, 0, 0), 25, 0, 1025}, {of(1, 1, 0, 0), 25, 1, 2050}, {of(1, 1, 0, 0), 25, 5, 32800},
		{of(9000, 9000, 1, 0), 0, 0, 1001}, {of(1, 1, 333000, 166500), 7, 0, 999007},
		{&Rtt{}, 0, 0, 999000}, {&Rtt{}, 1, 0, 999001}, {&Rtt{}, 25000, 1, 2048000}, {&Rtt{}, 0, 20, 999000 << 20}, {&Rtt{}, 0, 21, MaxTicks},
		{&Rtt{api.RttState{Latest: 1, Min: 1, Smooth: 1, Var: 1}}, 0, 0, 999000}, {nil, 0, 0, 999000}, {nil, 25, 3, 7992200}, {nil, 0, all64, MaxTicks},
	})
}

// TestPtoMost: P13.2, MaxTicks at most, whatever is summed and doubled.
func TestPtoMost(t *testing.T) {
	ptos(t, []wait{
		{of(1, 1, 24, 0), 0, 30, 1 << 40}, {of(1, 1, 23, 0), 0, 30, 1023 << 30}, {of(1, 1, 25, 0), 0, 30, 1 << 40}, {of(1, 1, 24, 0), 0, 29, 1 << 39},
		{of(1, 1, 24, 0), 0, 31, 1 << 40}, {of(1, 1, 24, 0), 0, 53, 1 << 40}, {of(1, 1, 24, 0), 0, 54, 1 << 40}, {of(1, 1, 24, 0), 0, 63, 1 << 40},
		{of(1, 1, 24, 0), 0, 64, 1 << 40}, {of(1, 1, 24, 0), 0, 65, 1 << 40}, {of(1, 1, 24, 0), 0, all64, 1 << 40}, {of(1, 1, 0, 0), 0, 1 << 63, 1 << 40},
		{of(1, 1, MaxTicks-1000, 0), 0, 0, 1 << 40}, {of(1, 1, MaxTicks-1001, 0), 0, 0, 1<<40 - 1}, {of(1, 1, MaxTicks-1001, 0), 2, 0, 1 << 40},
		{of(1, 1, 0, 0), MaxTicks - 1001, 0, 1<<40 - 1}, {of(1, 1, 0, 0), MaxTicks - 999, 0, 1 << 40}, {of(1, 1, 0, 0), all64, 0, 1 << 40},
		{of(1, 1, 0, 1<<38-1), 3, 0, 1<<40 - 1}, {of(1, 1, 0, 1<<38-1), 5, 0, 1 << 40}, {&Rtt{}, all64, all64, 1 << 40},
		{of(1, 1, 0, 1<<62), 0, 0, 1 << 40}, {of(1, 1, all64, 0), 0, 0, 1 << 40}, {of(1, 1, all64, all64), all64, all64, 1 << 40},
		{of(1, 1, all64-999, 0), 0, 0, 1 << 40}, {of(1, 1, 1<<63, 1<<61), 0, 0, 1 << 40},
	})
}

// TestLoss: P13.2, nine eights of the greater one, cut; Grain at least; it can be above MaxTicks.
func TestLoss(t *testing.T) {
	table := []struct {
		r    *Rtt
		want uint64
	}{
		{nil, 374625}, {&Rtt{}, 374625}, {&Rtt{api.RttState{Latest: 1 << 30, Min: 1, Smooth: 1 << 30}}, 374625},
		{of(0, 0, 0, 0), 1000}, {of(888, 0, 0, 0), 1000}, {of(889, 0, 0, 0), 1000}, {of(890, 0, 0, 0), 1001}, {of(0, 0, 890, 0), 1001},
		{of(0, 0, 0, 1<<40), 1000}, {of(0, 1<<40, 0, 0), 1000}, {of(1800, 1, 1037, 450), 2025}, {of(1037, 1, 1800, 450), 2025},
		{of(1807, 1, 1, 1), 2032}, {of(1808, 1, 1, 1), 2034}, {of(MaxTicks, 1, 5, 1), MaxTicks + 1<<37}, {of(5, 1, MaxTicks, 1), MaxTicks + 1<<37},
		{of(1<<62, 0, 0, 0), 1<<62 + 1<<59}, {of(all64, 0, 0, 0), all64}, {of(0, 0, 1<<63, 0), 1<<63 + 1<<60},
	}
	for _, x := range table {
		if got := x.r.Loss(); got != x.want {
			t.Errorf("%+v: Loss: %d, not %d", x.r, got, x.want)
		}
	}
}

// TestNil: of nil Sample does nothing, and what is asked is as of one of which nothing is known.
func TestNil(t *testing.T) {
	var r *Rtt
	r.Sample(1000, 0)
	r.Sample(0, all64)
	for _, delay := range []uint64{0, 25, MaxTicks, all64} {
		for _, times := range []uint64{0, 1, 40, all64} {
			if got, want := r.Pto(delay, times), new(Rtt).Pto(delay, times); got != want {
				t.Errorf("Pto(%d, %d): %d, not %d", delay, times, got, want)
			}
		}
	}
	if r.Loss() != new(Rtt).Loss() {
		t.Error("Loss:", r.Loss())
	}
}

// TestAsking: Pto and Loss change nothing, and answer the same again (R5).
func TestAsking(t *testing.T) {
	for _, r := range []*Rtt{{}, of(1800, 1000, 1037, 450), of(all64, all64, all64, all64)} {
		was := r.RttState
		pto, loss := r.Pto(25, 2), r.Loss()
		if r.Pto(25, 2) != pto || r.Loss() != loss || r.RttState != was {
			t.Errorf("%+v: asked, it is %+v", was, r.RttState)
		}
	}
}

// TestGoesOn: a way is its state alone: one that is made of another one's state goes on as that.
func TestGoesOn(t *testing.T) {
	a := taken([2]uint64{1000, 0}, [2]uint64{1800, 500})
	b := &Rtt{a.RttState}
	a.Sample(1300, 20)
	b.Sample(1300, 20)
	holds(t, "the copy", b, a)
}

// TestEqual: P13.3, of equal samples without delay Smooth stays, and Var goes to 0.
func TestEqual(t *testing.T) {
	for _, x := range []uint64{0, 1, 7, 8, 1000, 333333, MaxTicks - 1, MaxTicks} {
		r := &Rtt{}
		for i := range 200 {
			was := r.Var
			r.Sample(x, 0)
			if r.Smooth != x || r.Min != x || r.Latest != x || i > 0 && r.Var > was {
				t.Fatalf("%d: %+v", x, r)
			}
		}
		if r.Var != 0 {
			t.Errorf("%d: Var is %d", x, r.Var)
		}
	}
}

// TestRising: P13.3, Pto falls never as times rises; it is twice the one ahead, or MaxTicks.
func TestRising(t *testing.T) {
	for _, r := range []*Rtt{nil, {}, of(1, 1, 0, 0), of(1800, 1000, 1037, 450), of(1, 1, MaxTicks, MaxTicks), of(1, 1, 24, 0)} {
		was := r.Pto(25, 0)
		for times := range uint64(200) {
			next := r.Pto(25, times+1)
			if next != min(2*was, MaxTicks) {
				t.Fatalf("%+v: %d behind %d, at %d", r, next, was, times+1)
			}
			was = next
		}
	}
}

// model is a way by the document's words, in numbers without an end.
type model struct {
	has                      bool
	latest, least, smooth, v *big.Int
}

func num(n uint64) *big.Int { return new(big.Int).SetUint64(n) }

// most is the lesser of the number and MaxTicks.
func most(n *big.Int) *big.Int {
	if m := num(MaxTicks); n.Cmp(m) > 0 {
		return m
	}
	return n
}

// parts is (times a + b) / by, cut.
func parts(times int64, a, b *big.Int, by int64) *big.Int {
	n := new(big.Int).Mul(big.NewInt(times), a)
	return n.Div(n.Add(n, b), big.NewInt(by))
}

// sample answers what was taken for Smooth, too.
func (m *model) sample(l, d uint64) *big.Int {
	latest, delay := most(num(l)), most(num(d))
	if !m.has {
		*m = model{true, latest, latest, latest, new(big.Int).Div(latest, big.NewInt(2))}
		return latest
	}
	m.latest = latest
	if latest.Cmp(m.least) < 0 {
		m.least = latest
	}
	adjusted := latest
	if latest.Cmp(new(big.Int).Add(m.least, delay)) >= 0 {
		adjusted = new(big.Int).Sub(latest, delay)
	}
	off := new(big.Int).Sub(m.smooth, adjusted)
	m.v = parts(3, m.v, off.Abs(off), 4)
	m.smooth = parts(7, m.smooth, adjusted, 8)
	return adjusted
}

func (m *model) pto(d, times uint64) *big.Int {
	smooth, v := num(First), num(First/2)
	if m.has {
		smooth, v = m.smooth, m.v
	}
	four := new(big.Int).Mul(v, big.NewInt(4))
	if four.Cmp(num(Grain)) < 0 {
		four = num(Grain)
	}
	sum := new(big.Int).Add(smooth, four)
	sum.Add(sum, most(num(d)))
	return most(sum.Lsh(sum, uint(min(times, 100))))
}

func (m *model) loss() *big.Int {
	way := num(First)
	if m.has {
		way = m.latest
		if m.smooth.Cmp(way) > 0 {
			way = m.smooth
		}
	}
	if n := parts(9, way, num(0), 8); n.Cmp(num(Grain)) > 0 {
		return n
	}
	return num(Grain)
}

// some is a number by chance, of any size, often at an edge.
func some(r *rand.Rand) uint64 {
	switch r.Intn(8) {
	case 0:
		return []uint64{0, 1, Grain, First, MaxTicks - 1, MaxTicks, MaxTicks + 1, all64}[r.Intn(8)]
	case 1, 2, 3:
		return uint64(r.Intn(3000))
	}
	return r.Uint64() >> r.Intn(64)
}

// alike fails if the way and the model tell unlike things.
func alike(t *testing.T, r *Rtt, m *model, by *rand.Rand) {
	t.Helper()
	if r.Has != m.has || m.has && (num(r.Latest).Cmp(m.latest) != 0 || num(r.Min).Cmp(m.least) != 0 || num(r.Smooth).Cmp(m.smooth) != 0 || num(r.Var).Cmp(m.v) != 0) {
		t.Fatalf("%+v, not %+v", r, m)
	}
	delay, times := some(by), some(by)
	if by.Intn(3) > 0 {
		times %= 45
	}
	if got, want := r.Pto(delay, times), m.pto(delay, times); num(got).Cmp(want) != 0 {
		t.Fatalf("%+v: Pto(%d, %d): %d, not %d", r, delay, times, got, want)
	}
	if got, want := r.Loss(), m.loss(); num(got).Cmp(want) != 0 && (want.IsUint64() || got != all64) {
		t.Fatalf("%+v: Loss: %d, not %d", r, got, want)
	}
}

// TestModel: P13.1 to P13.3, calls by chance against the model, step by step; of ways that begin here.
func TestModel(t *testing.T) {
	by := rand.New(rand.NewSource(13))
	for range 300 {
		r, m := &Rtt{}, &model{}
		alike(t, r, m, by)
		least, low, high := all64, all64, uint64(0)
		for range 60 {
			latest, delay := some(by), some(by)
			if by.Intn(3) == 0 {
				delay %= latest + 1 - min(latest, 1)
			}
			r.Sample(latest, delay)
			took := m.sample(latest, delay).Uint64()
			alike(t, r, m, by)
			least, low, high = min(least, latest), min(low, took), max(high, took)
			if r.Min > least || r.Smooth < low || r.Smooth > high {
				t.Fatalf("%+v: least %d, taken from %d to %d", r, least, low, high)
			}
		}
	}
}

// TestStates: P13.1 and P13.2, of states whose numbers are any: sums do not wrap round.
func TestStates(t *testing.T) {
	by := rand.New(rand.NewSource(130))
	for range 20000 {
		r := of(some(by), some(by), some(by), some(by))
		m := &model{true, num(r.Latest), num(r.Min), num(r.Smooth), num(r.Var)}
		alike(t, r, m, by)
		latest, delay := some(by), some(by)
		r.Sample(latest, delay)
		m.sample(latest, delay)
		alike(t, r, m, by)
	}
}
