package span

import (
	"math"
	"math/rand"
	"slices"
	"testing"

	"hostler/api"
)

// most is the number that is in no range.
const most = uint64(math.MaxUint64)

// rs is a list of ranges: of each two numbers the first is From, the second To.
func rs(ends ...uint64) []api.Range {
	var l []api.Range
	for i := 0; i+1 < len(ends); i += 2 {
		l = append(l, api.Range{From: ends[i], To: ends[i+1]})
	}
	return l
}

// small is how many numbers a set of the model has at most; they begin at base.
const small = 64

// set is the model of a list whose numbers are from base on: a bit a number.
func set(base uint64, l []api.Range) uint64 {
	var bits uint64
	for i := range uint64(small) {
		for _, r := range l {
			if n := base + i; n >= base && r.From <= n && n < r.To {
				bits |= 1 << i
			}
		}
	}
	return bits
}

// list is the one neat list of the model's numbers.
func list(base, bits uint64) []api.Range {
	var l []api.Range
	for i := range uint64(small) {
		if bits>>i&1 == 0 {
			continue
		}
		if n := len(l); i > 0 && bits>>(i-1)&1 == 1 {
			l[n-1].To++
		} else {
			l = append(l, api.Range{From: base + i, To: base + i + 1})
		}
	}
	return l
}

// bases are where the model's numbers begin: at 0, about powers of two, and so that the last one in a range is the greatest of all.
func bases() []uint64 {
	return []uint64{0, 1, 1<<32 - 30, api.MaxVar - 31, 1<<63 - 32, most - small}
}

// someRange is a range by chance, about the model's numbers: some have no number, some begin behind their end.
func someRange(r *rand.Rand, base uint64) api.Range {
	from := base + uint64(r.Intn(small+1))
	switch r.Intn(8) {
	case 0:
		return api.Range{From: from, To: from}
	case 1:
		return api.Range{From: from, To: base + uint64(r.Intn(small+1))}
	case 2:
		return api.Range{From: from, To: 0}
	default:
		return api.Range{From: from, To: min(from+1+uint64(r.Intn(9)), base+small)}
	}
}

// someList is a list by chance, in no order; now and then it is neat.
func someList(r *rand.Rand, base uint64) []api.Range {
	var l []api.Range
	for range r.Intn(9) {
		l = append(l, someRange(r, base))
	}
	if r.Intn(3) == 0 {
		return list(base, set(base, l))
	}
	return l
}

// same tells whether two lists are the same one; an empty one may be nil, or not.
func same(a, b []api.Range) bool {
	return slices.Equal(a, b)
}

// TestExamples: P11.2 and P11.3, the document's examples.
func TestExamples(t *testing.T) {
	if got := Add(rs(1, 3, 5, 7), rs(3, 5)...); !same(got, rs(1, 7)) {
		t.Error(got)
	}
	if got := Add(rs(1, 3, 5, 7), rs(9, 9)...); !same(got, rs(1, 3, 5, 7)) {
		t.Error(got)
	}
	if got := Cut(rs(1, 9), rs(3, 4, 6, 20)...); !same(got, rs(1, 3, 4, 6)) {
		t.Error(got)
	}
	if got := Both(rs(1, 4, 6, 9), rs(3, 7)...); !same(got, rs(3, 4, 6, 7)) {
		t.Error(got)
	}
	if !Has(rs(1, 3), 1, 2) || Has(rs(1, 3), 3) {
		t.Error("Has of 1-3")
	}
	if Gap(rs(1, 3), 1) != 3 || Gap(rs(1, 3), 7) != 7 {
		t.Error("Gap of 1-3")
	}
}

// TestNeat: P11.1, lists that are neat and such as are not, for one reason each.
func TestNeat(t *testing.T) {
	table := []struct {
		l    []api.Range
		want bool
	}{
		{nil, true}, {rs(), true}, {[]api.Range{}, true},
		{rs(0, 1), true}, {rs(5, 6), true}, {rs(0, most), true}, {rs(most-1, most), true},
		{rs(1, 3, 4, 5), true}, {rs(1, 3, 5, 7, 9, 10), true}, {rs(0, 1, 2, 3, most-1, most), true},
		// A range without a number, wherever it is.
		{rs(0, 0), false}, {rs(1, 1), false}, {rs(2, 1), false}, {rs(most, most), false}, {rs(most, 0), false},
		{rs(1, 3, 5, 5), false}, {rs(1, 1, 5, 7), false}, {rs(1, 3, 5, 5, 7, 9), false}, {rs(1, 3, 6, 5, 7, 9), false},
		// None is missing between two.
		{rs(1, 3, 3, 5), false}, {rs(1, 3, 5, 7, 7, 9), false}, {rs(0, 1, 1, 2), false}, {rs(0, most-1, most-1, most), false},
		// They have numbers together.
		{rs(1, 3, 2, 5), false}, {rs(1, 9, 3, 5), false}, {rs(1, 3, 1, 3), false}, {rs(1, 3, 1, 5), false},
		// They do not rise.
		{rs(5, 7, 1, 3), false}, {rs(1, 3, 9, 10, 5, 7), false}, {rs(most-1, most, 0, 1), false},
	}
	for _, x := range table {
		if got := Neat(x.l); got != x.want {
			t.Errorf("Neat(%v) = %v", x.l, got)
		}
	}
}

// TestNeatOne: P11.1, of all lists of up to three ranges over few numbers those are neat that the model makes of their numbers.
func TestNeatOne(t *testing.T) {
	all := few(7)
	for _, a := range all {
		for _, b := range all {
			for _, l := range [][]api.Range{{a}, {a, b}, {a, b, {From: 5, To: 6}}, {{From: 0, To: 1}, a, b}} {
				if got, want := Neat(l), same(l, list(0, set(0, l))); got != want {
					t.Fatalf("Neat(%v) = %v", l, got)
				}
			}
		}
	}
}

// few are all ranges between numbers below n, those without a number too.
func few(n uint64) []api.Range {
	var l []api.Range
	for from := range n {
		for to := range n {
			l = append(l, api.Range{From: from, To: to})
		}
	}
	return l
}

// TestAdd: P11.2, a range ahead of, behind, between, beside, over and within others.
func TestAdd(t *testing.T) {
	table := []struct{ l, more, want []api.Range }{
		{nil, nil, nil}, {rs(3, 5), nil, rs(3, 5)}, {nil, rs(3, 5), rs(3, 5)},
		{rs(3, 5), rs(0, 2), rs(0, 2, 3, 5)}, {rs(3, 5), rs(0, 3), rs(0, 5)}, {rs(3, 5), rs(0, 4), rs(0, 5)}, {rs(3, 5), rs(0, 9), rs(0, 9)},
		{rs(3, 5), rs(3, 5), rs(3, 5)}, {rs(3, 5), rs(3, 4), rs(3, 5)}, {rs(3, 5), rs(4, 5), rs(3, 5)}, {rs(3, 9), rs(4, 5), rs(3, 9)},
		{rs(3, 5), rs(5, 6), rs(3, 6)}, {rs(3, 5), rs(6, 7), rs(3, 5, 6, 7)}, {rs(3, 5, 8, 9), rs(6, 7), rs(3, 5, 6, 7, 8, 9)},
		{rs(3, 5, 8, 9), rs(5, 8), rs(3, 9)}, {rs(1, 2, 3, 4, 5, 6), rs(2, 3, 4, 5), rs(1, 6)}, {rs(1, 2, 9, 10), rs(0, 20), rs(0, 20)},
		// Lists that are not neat, on either side.
		{rs(5, 7, 1, 3), nil, rs(1, 3, 5, 7)}, {rs(1, 3, 3, 5), nil, rs(1, 5)}, {rs(1, 9, 2, 3), nil, rs(1, 9)}, {rs(2, 3, 1, 9, 20, 5), nil, rs(1, 9)},
		{rs(1, 9, 2, 3, 9, 10), nil, rs(1, 10)}, {nil, rs(9, 10, 4, 4, 1, 3, 2, 5, 7, 6), rs(1, 5, 9, 10)}, {rs(8, 9, 4, 5), rs(7, 8, 5, 6), rs(4, 6, 7, 9)},
		// Nothing is added by a range without a number.
		{rs(1, 3), rs(2, 2), rs(1, 3)}, {rs(1, 3), rs(9, 2), rs(1, 3)}, {nil, rs(0, 0, most, most, most, 0, 7, 6), nil},
		// The ends of all numbers.
		{rs(0, 1), rs(most-1, most), rs(0, 1, most-1, most)}, {rs(0, 5), rs(5, most), rs(0, most)}, {rs(0, most), rs(0, most), rs(0, most)},
		{rs(0, most-1), rs(most-1, most), rs(0, most)},
	}
	for _, x := range table {
		if got := Add(x.l, x.more...); !same(got, x.want) {
			t.Errorf("Add(%v, %v) = %v, want %v", x.l, x.more, got, x.want)
		}
		if got := Add(x.more, x.l...); !same(got, x.want) {
			t.Errorf("Add(%v, %v) = %v, want %v", x.more, x.l, got, x.want)
		}
	}
}

// TestCut: P11.2, what is cut off ahead, behind, in the midst, whole, and not at all.
func TestCut(t *testing.T) {
	table := []struct{ l, less, want []api.Range }{
		{nil, nil, nil}, {nil, rs(1, 2), nil}, {rs(3, 7), nil, rs(3, 7)},
		{rs(3, 7), rs(0, 3), rs(3, 7)}, {rs(3, 7), rs(7, 9), rs(3, 7)}, {rs(3, 7), rs(0, 4), rs(4, 7)}, {rs(3, 7), rs(6, 9), rs(3, 6)},
		{rs(3, 7), rs(3, 7), nil}, {rs(3, 7), rs(0, 9), nil}, {rs(3, 7), rs(4, 6), rs(3, 4, 6, 7)}, {rs(3, 7), rs(3, 6), rs(6, 7)}, {rs(3, 7), rs(4, 7), rs(3, 4)},
		{rs(1, 3, 5, 7, 9, 11), rs(2, 10), rs(1, 2, 10, 11)}, {rs(1, 3, 5, 7, 9, 11), rs(5, 7), rs(1, 3, 9, 11)}, {rs(1, 3, 5, 7), rs(3, 5), rs(1, 3, 5, 7)},
		{rs(0, 9), rs(1, 2, 3, 4, 5, 6), rs(0, 1, 2, 3, 4, 5, 6, 9)},
		// Lists that are not neat, on either side.
		{rs(5, 9, 1, 6), nil, rs(1, 9)}, {rs(1, 9), rs(6, 7, 2, 3), rs(1, 2, 3, 6, 7, 9)}, {rs(1, 9), rs(2, 7, 3, 4, 4, 8), rs(1, 2, 8, 9)}, {rs(1, 5, 5, 9), rs(4, 6), rs(1, 4, 6, 9)},
		// Nothing is cut by a range without a number.
		{rs(1, 9), rs(5, 5, 7, 3), rs(1, 9)}, {rs(5, 5, 9, 0), rs(1, 2), nil},
		// The ends of all numbers.
		{rs(0, most), rs(0, 1, most-1, most), rs(1, most-1)}, {rs(0, most), rs(0, most), nil}, {rs(0, most), rs(most, 0), rs(0, most)}, {rs(0, most), rs(1, most), rs(0, 1)},
	}
	for _, x := range table {
		if got := Cut(x.l, x.less...); !same(got, x.want) {
			t.Errorf("Cut(%v, %v) = %v, want %v", x.l, x.less, got, x.want)
		}
	}
}

// TestBoth: P11.2, what two lists have together, whichever goes first.
func TestBoth(t *testing.T) {
	table := []struct{ l, with, want []api.Range }{
		{nil, nil, nil}, {nil, rs(1, 2), nil}, {rs(1, 9), rs(1, 9), rs(1, 9)}, {rs(1, 9), rs(3, 4), rs(3, 4)},
		{rs(1, 3), rs(3, 5), nil}, {rs(1, 3), rs(2, 5), rs(2, 3)}, {rs(1, 3, 5, 7), rs(0, 9), rs(1, 3, 5, 7)}, {rs(1, 3, 5, 7), rs(3, 5), nil},
		{rs(1, 3, 5, 7), rs(2, 6), rs(2, 3, 5, 6)}, {rs(0, 2, 4, 6, 8, 10), rs(1, 5, 5, 9), rs(1, 2, 4, 6, 8, 9)},
		{rs(5, 9, 1, 6), rs(8, 20, 0, 2), rs(1, 2, 8, 9)}, {rs(1, 9), rs(5, 5, 7, 3), nil},
		{rs(0, most), rs(most-1, most), rs(most-1, most)}, {rs(0, most), rs(0, most), rs(0, most)}, {rs(0, most), rs(most, most), nil},
	}
	for _, x := range table {
		if got := Both(x.l, x.with...); !same(got, x.want) {
			t.Errorf("Both(%v, %v) = %v, want %v", x.l, x.with, got, x.want)
		}
		if got := Both(x.with, x.l...); !same(got, x.want) {
			t.Errorf("Both(%v, %v) = %v, want %v", x.with, x.l, got, x.want)
		}
	}
}

// TestHas: P11.3, all of them, at the ranges' ends and past them; of none it is true.
func TestHas(t *testing.T) {
	table := []struct {
		l    []api.Range
		n    []uint64
		want bool
	}{
		{nil, nil, true}, {rs(1, 3), nil, true}, {nil, []uint64{0}, false}, {nil, []uint64{most}, false},
		{rs(1, 3), []uint64{0}, false}, {rs(1, 3), []uint64{1}, true}, {rs(1, 3), []uint64{2}, true}, {rs(1, 3), []uint64{4}, false}, {rs(1, 3), []uint64{2, 2, 1}, true},
		{rs(1, 3, 5, 7), []uint64{6, 1, 5, 2}, true}, {rs(1, 3, 5, 7), []uint64{1, 4, 5}, false}, {rs(1, 3, 5, 7), []uint64{1, 2, 5, 7}, false}, {rs(1, 3, 5, 7), []uint64{0, 1, 2}, false},
		{rs(5, 7, 1, 3), []uint64{1, 6}, true}, {rs(5, 7, 1, 3), []uint64{4}, false}, {rs(1, 9, 2, 3), []uint64{2, 5, 8}, true}, {rs(1, 9, 2, 3), []uint64{9}, false},
		{rs(3, 3), []uint64{3}, false}, {rs(7, 3), []uint64{3}, false}, {rs(7, 3), []uint64{5}, false}, {rs(9, 2, 4, 6), []uint64{5}, true},
		{rs(0, most), []uint64{0, 1 << 63, most - 1}, true}, {rs(0, most), []uint64{most}, false}, {rs(most, most), []uint64{most}, false}, {rs(most-1, most), []uint64{most - 1}, true},
	}
	for _, x := range table {
		if got := Has(x.l, x.n...); got != x.want {
			t.Errorf("Has(%v, %v) = %v", x.l, x.n, got)
		}
	}
}

// TestGap: P11.3, the number itself if it is in no range; else the end of all that go on from there.
func TestGap(t *testing.T) {
	table := []struct {
		l          []api.Range
		from, want uint64
	}{
		{nil, 0, 0}, {nil, 7, 7}, {nil, most, most},
		{rs(1, 3), 0, 0}, {rs(1, 3), 2, 3}, {rs(1, 3), 3, 3}, {rs(0, 3), 0, 3},
		{rs(1, 3, 5, 7), 2, 3}, {rs(1, 3, 5, 7), 4, 4}, {rs(1, 3, 5, 7), 5, 7}, {rs(1, 3, 5, 7), 6, 7}, {rs(1, 3, 5, 7), 9, 9},
		// Ranges that meet, or have numbers together, in whatever order.
		{rs(1, 3, 3, 5, 5, 6), 1, 6}, {rs(5, 6, 3, 5, 1, 3), 1, 6}, {rs(1, 9, 2, 3), 2, 9}, {rs(2, 3, 1, 9, 8, 12), 2, 12}, {rs(4, 9, 0, 4), 0, 9},
		{rs(1, 3, 3, 3, 4, 4), 1, 3}, {rs(3, 3), 3, 3}, {rs(7, 3), 5, 5},
		{rs(0, most), 0, most}, {rs(0, most), most - 1, most}, {rs(0, most), most, most}, {rs(most-1, most), most - 2, most - 2}, {rs(most, most), most, most},
	}
	for _, x := range table {
		if got := Gap(x.l, x.from); got != x.want {
			t.Errorf("Gap(%v, %d) = %d, want %d", x.l, x.from, got, x.want)
		}
	}
}

// TestCount: P11.3, each number once, and up to as many as there are.
func TestCount(t *testing.T) {
	table := []struct {
		l    []api.Range
		want uint64
	}{
		{nil, 0}, {rs(3, 3), 0}, {rs(7, 3), 0}, {rs(most, 0), 0}, {rs(most, most), 0},
		{rs(1, 3), 2}, {rs(1, 3, 5, 7), 4}, {rs(1, 3, 3, 5), 4}, {rs(1, 3, 2, 5), 4}, {rs(1, 9, 2, 3), 8}, {rs(1, 3, 1, 3), 2}, {rs(5, 7, 9, 4, 1, 3), 4},
		{rs(0, most), most}, {rs(0, most, 0, most), most}, {rs(0, 1<<63, 1<<63, most), most}, {rs(1, most, 0, 5), most}, {rs(most-1, most), 1},
	}
	for _, x := range table {
		if got := Count(x.l); got != x.want {
			t.Errorf("Count(%v) = %d, want %d", x.l, got, x.want)
		}
	}
}

// TestFew: P11.2, all pairs of ranges beside each other, and one more, over few numbers, held against the model.
func TestFew(t *testing.T) {
	all := few(6)
	for _, a := range all {
		for _, b := range all {
			for _, c := range all {
				l, more := []api.Range{a, b}, []api.Range{c}
				held(t, 0, l, more)
				held(t, 0, more, l)
			}
		}
	}
}

// TestChance: P11.2 and P11.3, lists by chance, at all bases, held against the model.
func TestChance(t *testing.T) {
	r := rand.New(rand.NewSource(11))
	for _, base := range bases() {
		for range 4000 {
			l, other := someList(r, base), someList(r, base)
			held(t, base, l, other)
			asked(t, base, l)
		}
	}
}

// held fails the test if Add, Cut or Both of the lists are not the model's, or not neat.
func held(t *testing.T, base uint64, l, other []api.Range) {
	t.Helper()
	a, b := set(base, l), set(base, other)
	for _, x := range []struct {
		name string
		got  []api.Range
		want uint64
	}{{"Add", Add(l, other...), a | b}, {"Cut", Cut(l, other...), a &^ b}, {"Both", Both(l, other...), a & b}} {
		if !same(x.got, list(base, x.want)) || !Neat(x.got) {
			t.Fatalf("%s(%v, %v) = %v, want %v", x.name, l, other, x.got, list(base, x.want))
		}
	}
}

// asked fails the test if Has, Gap or Count of the list are not the model's.
func asked(t *testing.T, base uint64, l []api.Range) {
	t.Helper()
	bits := set(base, l)
	if got, want := Count(l), uint64(len(numbers(base, bits))); got != want {
		t.Fatalf("Count(%v) = %d, want %d", l, got, want)
	}
	if !Has(l, numbers(base, bits)...) || !Has(l) {
		t.Fatalf("Has(%v) is false of its own numbers", l)
	}
	gap := base + small
	for i := small - 1; i >= 0; i-- {
		n := base + uint64(i)
		in := bits>>i&1 == 1
		if !in {
			gap = n
		}
		if got := Gap(l, n); got != gap {
			t.Fatalf("Gap(%v, %d) = %d, want %d", l, n, got, gap)
		}
		if got := Has(l, n); got != in {
			t.Fatalf("Has(%v, %d) = %v", l, n, got)
		}
		if got := Has(l, append(numbers(base, bits), n)...); got != in {
			t.Fatalf("Has(%v, all, and %d) = %v", l, n, got)
		}
	}
}

// numbers are those of the model.
func numbers(base, bits uint64) []uint64 {
	var l []uint64
	for i := range uint64(small) {
		if bits>>i&1 == 1 {
			l = append(l, base+i)
		}
	}
	return l
}

// TestFollows: P11.4, the same numbers, told by other lists in another order, are added and cut the same; what is cut, and what is in both, are the set together, and apart.
func TestFollows(t *testing.T) {
	r := rand.New(rand.NewSource(114))
	for _, base := range bases() {
		for range 2000 {
			l, other := someList(r, base), someList(r, base)
			shuffled := torn(r, other)
			tornL := torn(r, l)
			if a, b := Add(l, other...), Add(tornL, shuffled...); !same(a, b) {
				t.Fatalf("Add(%v, %v) = %v; of %v, %v it is %v", l, other, a, tornL, shuffled, b)
			}
			if a, b := Cut(l, other...), Cut(tornL, shuffled...); !same(a, b) {
				t.Fatalf("Cut(%v, %v) = %v; of %v, %v it is %v", l, other, a, tornL, shuffled, b)
			}
			one := l
			for _, x := range shuffled {
				one = Add(one, x)
			}
			if a := Add(l, other...); !same(a, Add(one)) {
				t.Fatalf("Add(%v, %v) = %v; one by one %v", l, other, a, one)
			}
			cut, both := Cut(l, other...), Both(l, other...)
			if !same(Add(cut, both...), Add(l)) || len(Both(cut, both...)) != 0 || Count(cut)+Count(both) != Count(l) {
				t.Fatalf("%v and %v: cut %v, both %v", l, other, cut, both)
			}
		}
	}
}

// torn is the same numbers, told by ranges that are cut up, said twice, and shuffled.
func torn(r *rand.Rand, l []api.Range) []api.Range {
	var out []api.Range
	for _, x := range l {
		if x.To <= x.From {
			continue
		}
		at := x.From + uint64(r.Int63n(int64(x.To-x.From)))
		out = append(out, api.Range{From: x.From, To: at}, api.Range{From: at, To: x.To}, api.Range{From: x.To, To: at})
		if r.Intn(3) == 0 {
			out = append(out, x)
		}
	}
	r.Shuffle(len(out), func(i, j int) { out[i], out[j] = out[j], out[i] })
	return out
}

// TestOwnMemory: P11.2 and R3, what is answered is in memory of its own, nothing that is handed in is changed, and what is answered twice is apart.
func TestOwnMemory(t *testing.T) {
	calls := []func(l []api.Range, with ...api.Range) []api.Range{Add, Cut, Both}
	lists := [][]api.Range{rs(1, 3, 5, 7), rs(5, 7, 1, 3, 9, 9, 2, 6), rs(0, 20), nil}
	for i, call := range calls {
		for _, first := range lists {
			for _, second := range lists {
				// There is room behind both, so that an append to either would show.
				l := append(make([]api.Range, 0, 40), first...)
				with := append(make([]api.Range, 0, 40), second...)
				got, again := call(l, with...), call(l, with...)
				want := slices.Clone(got)
				if !same(l, first) || !same(with, second) {
					t.Fatalf("call %d has changed %v or %v: %v, %v", i, first, second, l, with)
				}
				for _, x := range [][]api.Range{l[:cap(l)], with[:cap(with)]} {
					for at, behind := range x[len(x)-20:] {
						if behind != (api.Range{}) {
							t.Fatalf("call %d wrote behind a list, at %d", i, at)
						}
					}
					clear(x)
				}
				if !same(got, want) {
					t.Fatalf("call %d of %v, %v: the answer has a part of them", i, first, second)
				}
				clear(got)
				if !same(again, want) {
					t.Fatalf("call %d of %v, %v: two answers have a part together", i, first, second)
				}
			}
		}
	}
}

// TestUnchanged: R3, Neat, Has, Gap and Count leave a list as it is.
func TestUnchanged(t *testing.T) {
	for _, first := range [][]api.Range{rs(1, 3, 5, 7), rs(5, 7, 1, 3, 9, 9, 2, 6)} {
		l := slices.Clone(first)
		n := []uint64{6, 1, 9}
		Neat(l)
		Has(l, n...)
		Gap(l, 2)
		Count(l)
		if !same(l, first) || !slices.Equal(n, []uint64{6, 1, 9}) {
			t.Errorf("%v became %v, and n %v", first, l, n)
		}
	}
}

// TestAlike: P11.2, a list with itself, handed in as both.
func TestAlike(t *testing.T) {
	for _, l := range [][]api.Range{nil, rs(1, 3, 5, 7), rs(5, 7, 1, 3, 9, 9, 2, 6), rs(0, most)} {
		want := list(0, set(0, l))
		if l != nil && l[0].To == most {
			want = l
		}
		if got := Add(l, l...); !same(got, want) {
			t.Errorf("Add(%v, itself) = %v", l, got)
		}
		if got := Both(l, l...); !same(got, want) {
			t.Errorf("Both(%v, itself) = %v", l, got)
		}
		if got := Cut(l, l...); len(got) != 0 {
			t.Errorf("Cut(%v, itself) = %v", l, got)
		}
	}
}

// TestMany: R1, long lists, in whatever order, are worked out in good time.
func TestMany(t *testing.T) {
	const many = 300000
	var l, gaps []api.Range
	var n []uint64
	for i := range uint64(many) {
		l = append(l, api.Range{From: 3 * i, To: 3*i + 2})
		gaps = append(gaps, api.Range{From: 3*i + 2, To: 3*i + 3})
		n = append(n, 3*i+1)
	}
	mixed := slices.Clone(l)
	r := rand.New(rand.NewSource(1))
	for range 2 {
		if got := Add(mixed, gaps...); !same(got, rs(0, 3*many)) {
			t.Fatalf("%d ranges", len(got))
		}
		if got := Cut(rs(0, 3*many), gaps...); !same(got, l) {
			t.Fatalf("%d ranges", len(got))
		}
		if got := Both(mixed, l...); !same(got, l) {
			t.Fatalf("%d ranges", len(got))
		}
		if Count(mixed) != 2*many || !Has(mixed, n...) || Has(mixed, append(n, 2)...) || Gap(mixed, 3*many-3) != 3*many-1 {
			t.Fatal("Count, Has or Gap of many")
		}
		r.Shuffle(many, func(i, j int) { mixed[i], mixed[j] = mixed[j], mixed[i] })
		r.Shuffle(many, func(i, j int) { gaps[i], gaps[j] = gaps[j], gaps[i] })
	}
}
