package rate

import (
	"math"
	"math/rand"
	"slices"
	"testing"

	"ashlar/api"
)

// values are floats in their order, the greatest last; no two are alike.
func values() []float64 {
	return []float64{
		math.Inf(-1), -math.MaxFloat64, -1e9, -2, -1, -0.5, -math.SmallestNonzeroFloat64, math.Copysign(0, -1),
		0, math.SmallestNonzeroFloat64, 1e-300, 0.25, math.Nextafter(0.5, 0), 0.5, math.Nextafter(1, 0), 1, math.Nextafter(1, 2),
		2, 3, 1e9, math.MaxFloat64, math.Inf(1), math.NaN(),
	}
}

// ints are whole numbers at which a call may go wrong.
func ints() []int {
	return []int{math.MinInt, math.MinInt + 1, -2, -1, 0, 1, 2, 3, 7, 1 << 53, 1<<53 + 1, math.MaxInt - 1, math.MaxInt}
}

// same tells whether two floats are one value: to the bit, or both no number.
func same(a, b float64) bool {
	return math.Float64bits(a) == math.Float64bits(b) || a != a && b != b
}

// otherNaNs are such whose bits differ.
func otherNaNs() []float64 {
	return []float64{math.NaN(), math.Float64frombits(0xfff8000000000000), math.Float64frombits(0x7ff0000000000001), math.Float64frombits(math.MaxUint64)}
}

func minusZero() float64 {
	return math.Copysign(0, -1)
}

func TestPart(t *testing.T) { // P2.1
	for _, c := range []struct {
		done, all int
		want      float64
	}{
		{1, 4, 0.25}, {4, 4, 1}, {0, 4, 0}, {5, 4, 1.25}, {-1, 4, -0.25}, {1, -4, -0.25}, {-1, -4, 0.25}, {1, 3, 1.0 / 3},
		{0, -4, minusZero()},
		{0, 0, math.NaN()}, {1, 0, math.Inf(1)}, {-1, 0, math.Inf(-1)},
		{math.MaxInt, 0, math.Inf(1)}, {math.MinInt, 0, math.Inf(-1)},
		{math.MaxInt, math.MaxInt, 1}, {math.MinInt, math.MinInt, 1}, {math.MinInt, math.MaxInt, -1},
		{math.MaxInt, 1, 1 << 63}, {1<<53 + 1, 1, 1 << 53}, {1, 1<<53 + 1, 1.0 / (1 << 53)},
	} {
		if x := Part(c.done, c.all); !same(x, c.want) {
			t.Errorf("Part(%d, %d) = %v", c.done, c.all, x)
		}
	}
}

func TestMean(t *testing.T) { // P2.1, R4
	inf := math.Inf(1)
	tail := []float64{1, 3, 100}
	for _, c := range []struct {
		l    []float64
		want float64
	}{
		{nil, math.NaN()}, {[]float64{}, math.NaN()}, {tail[:0], math.NaN()},
		{[]float64{5}, 5}, {tail[:2], 2}, {[]float64{1, 2}, 1.5}, {[]float64{-1, 1}, 0},
		{[]float64{minusZero()}, 0}, {[]float64{minusZero(), minusZero()}, 0}, // the sum begins with +0
		{[]float64{1e300, 1e300, -1e300}, 1e300 / 3},
		{[]float64{math.MaxFloat64, math.MaxFloat64, -math.MaxFloat64}, inf}, // from the first one on: it stays too great
		{[]float64{math.MaxFloat64, -math.MaxFloat64, math.MaxFloat64}, math.MaxFloat64 / 3},
		{[]float64{1, 1e16, -1e16}, 0}, {[]float64{1e16, -1e16, 1}, 1.0 / 3}, // in this order and in no other
		{[]float64{inf, 1}, inf}, {[]float64{-inf, 1}, -inf}, {[]float64{inf, -inf}, math.NaN()}, {[]float64{1, math.NaN(), 2}, math.NaN()},
		{[]float64{0, 0, math.SmallestNonzeroFloat64}, 0},
	} {
		if x := Mean(c.l); !same(x, c.want) {
			t.Errorf("Mean(%v) = %v, not %v", c.l, x, c.want)
		}
	}
}

func TestSmoothAtTheEdges(t *testing.T) { // P2.1
	nan, inf := math.NaN(), math.Inf(1)
	for _, c := range []struct{ old, x, weight, want float64 }{
		{nan, 3, 0.5, 3}, {3, nan, 0.5, 3}, {nan, nan, 0.5, nan}, {3, nan, 1, 3}, {3, nan, nan, 3}, {3, nan, 2, 3},
		{nan, 3, 0, 3}, {nan, 3, -1, 3}, {nan, 3, nan, 3}, {nan, inf, 0.5, inf}, {nan, minusZero(), 0.5, minusZero()},
		{5, 3, 0, 5}, {5, 3, minusZero(), 5}, {5, 3, -1, 5}, {5, 3, math.Inf(-1), 5}, {5, 3, nan, 5}, {inf, 3, 0, inf},
		{5, 3, 1, 3}, {5, 3, 1.5, 3}, {5, 3, inf, 3}, {inf, 3, 1, 3}, {3, inf, 1, inf}, {5, minusZero(), 1, minusZero()},
		{4, 8, 0.25, 5}, {4, 8, 0.5, 6}, {0, 1, 0.25, 0.25}, {1, 0, 0.25, 0.75}, {-4, 4, 0.5, 0},
		{inf, 3, 0.5, inf}, {3, inf, 0.5, inf}, {3, -inf, 0.5, -inf}, {inf, -inf, 0.5, nan}, {inf, inf, 0.5, inf},
		{minusZero(), minusZero(), 0.5, minusZero()}, {minusZero(), 0, 0.5, 0},
		{2, 0, math.Nextafter(1, 0), 2 * (1 - math.Nextafter(1, 0))}, {5, 3, math.SmallestNonzeroFloat64, 5},
	} {
		if x := Smooth(c.old, c.x, c.weight); !same(x, c.want) {
			t.Errorf("Smooth(%v, %v, %v) = %v, not %v", c.old, c.x, c.weight, x, c.want)
		}
	}
}

func TestSmoothRoundsEachProduct(t *testing.T) { // P2.1, R6
	r := rand.New(rand.NewSource(1))
	fusedDiffers := false
	for range 1000 {
		old, x, weight := r.NormFloat64(), r.NormFloat64(), r.Float64()
		if weight == 0 {
			continue
		}
		rest := 1 - weight
		kept := float64(old * rest)
		added := float64(x * weight)
		if y := Smooth(old, x, weight); !same(y, kept+added) {
			t.Errorf("Smooth(%v, %v, %v) = %v, not %v", old, x, weight, y, kept+added)
		}
		fusedDiffers = fusedDiffers || math.FMA(x, weight, kept) != kept+added
	}
	if !fusedDiffers {
		t.Error("these numbers would not show a product that is not rounded")
	}
}

func TestCompareHasOneOrder(t *testing.T) { // P2.2, P2.4
	l := values()
	for i, a := range l {
		for k, b := range l {
			want := 0
			if i < k {
				want = -1
			} else if i > k {
				want = 1
			}
			if c := Compare(a, b); c != want {
				t.Errorf("Compare(%v, %v) = %d", a, b, c)
			}
		}
	}
	for _, a := range otherNaNs() {
		for _, b := range otherNaNs() {
			if Compare(a, b) != 0 {
				t.Errorf("Compare of %x and %x, both NaN", math.Float64bits(a), math.Float64bits(b))
			}
		}
		if Compare(a, math.Inf(1)) != 1 || Compare(math.Inf(1), a) != -1 {
			t.Errorf("%x, a NaN, is not behind all", math.Float64bits(a))
		}
	}
}

func TestAlikeIsTheSameToTheBit(t *testing.T) { // P2.4
	r := rand.New(rand.NewSource(2))
	l := append(values(), otherNaNs()...)
	for range 100 {
		l = append(l, math.Float64frombits(r.Uint64()))
	}
	for _, a := range l {
		for _, b := range l {
			if (Compare(a, b) == 0) != same(a, b) {
				t.Errorf("Compare(%v, %v)", a, b)
			}
			if Compare(a, b) != -Compare(b, a) {
				t.Errorf("Compare(%v, %v) and turned round", a, b)
			}
		}
	}
	slices.SortFunc(l, Compare)
	for i := range l {
		for k := range i {
			if Compare(l[k], l[i]) > 0 {
				t.Errorf("%v stands ahead of %v", l[k], l[i])
			}
		}
	}
}

func TestWorst(t *testing.T) { // P2.2, R4
	nan, inf := math.NaN(), math.Inf(1)
	tail := []float64{1, 2, 3}
	for _, c := range []struct {
		l     []float64
		place int
		ok    bool
	}{
		{nil, 0, false}, {[]float64{}, 0, false}, {tail[:0], 0, false},
		{[]float64{-inf}, 0, true}, {[]float64{nan}, 0, true}, {tail[:2], 1, true},
		{[]float64{1, 3, 2}, 1, true}, {[]float64{3, 1, 3}, 0, true}, {[]float64{1, 3, 3}, 1, true},
		{[]float64{0, minusZero()}, 0, true}, {[]float64{minusZero(), 0}, 1, true}, {[]float64{minusZero(), 0, 0}, 1, true},
		{[]float64{inf, nan, inf, nan}, 1, true}, {[]float64{nan, inf}, 0, true}, {[]float64{-1, -inf}, 0, true},
		{[]float64{-2, -1, math.Copysign(nan, -1)}, 2, true},
	} {
		if p, ok := Worst(c.l); p != c.place || ok != c.ok {
			t.Errorf("Worst(%v) = %d, %v", c.l, p, ok)
		}
	}
}

func TestSteps(t *testing.T) { // P2.2
	nan, inf := math.NaN(), math.Inf(1)
	for _, c := range []struct {
		rate float64
		most int
		want int
	}{
		{2.9, 10, 2}, {2, 10, 2}, {10, 10, 10}, {11, 10, 10}, {inf, 7, 7}, {inf, math.MaxInt, math.MaxInt},
		{math.Nextafter(10, 0), 10, 9}, {math.Nextafter(1, 0), 1, 0}, {0.5, 10, 0}, {1, 1, 1}, {1e300, 3, 3},
		{nan, 10, 0}, {-inf, 10, 0}, {-1, 10, 0}, {0, 10, 0}, {minusZero(), 10, 0}, {math.SmallestNonzeroFloat64, 10, 0},
		{5, 0, 0}, {5, -1, 0}, {inf, 0, 0}, {inf, -1, 0}, {5, math.MinInt, 0}, {nan, 0, 0}, {-5, -7, 0},
		{1 << 63, math.MaxInt, math.MaxInt}, {math.Nextafter(1<<63, 0), math.MaxInt, 1<<63 - 1024},
		{1 << 53, 1<<53 + 1, 1<<53 + 1}, // 2^53 + 1 is 2^53 as float64
		{math.Nextafter(1<<53, 0), 1<<53 + 1, 1<<53 - 1},
	} {
		if n := Steps(c.rate, c.most); n != c.want {
			t.Errorf("Steps(%v, %d) = %d", c.rate, c.most, n)
		}
	}
}

func TestRank(t *testing.T) { // P2.3
	nan, inf := math.NaN(), math.Inf(1)
	tail := [][]float64{{1}, {2}, {3}}
	for _, c := range []struct {
		rows [][]float64
		want []int
	}{
		{nil, nil}, {[][]float64{}, nil}, {tail[:2], []int{1, 0}},
		{[][]float64{{1}, {}, {nan}}, []int{2, 0, 1}},
		{[][]float64{nil, {}, {-inf}}, []int{2, 0, 1}},
		{[][]float64{{}, nil, {}}, []int{0, 1, 2}},
		{[][]float64{{1, 9}, {5}, {9, 1}}, []int{0, 2, 1}},
		{[][]float64{{1}, {2}, {3}, {4}}, []int{3, 2, 1, 0}},
		{[][]float64{{minusZero()}, {0}, {minusZero(), 0}, {-1}}, []int{1, 2, 0, 3}},
		{[][]float64{{nan}, {inf}, {nan, 1}, {inf, -inf}, {}}, []int{0, 2, 1, 3, 4}},
		{[][]float64{{2}, {}, {2}, {1}, {}, {2}, {3}}, []int{6, 0, 2, 5, 3, 1, 4}},
	} {
		if l, e := Rank(c.rows); e != api.OK || !slices.Equal(l, c.want) {
			t.Errorf("Rank(%v) = %v, %d", c.rows, l, e)
		}
	}
}

func TestRankOfSeventeenRowsAndMore(t *testing.T) { // P2.3
	var rows [][]float64
	var want []int
	for i := range api.MaxDisks {
		rows = append(rows, []float64{float64(i)})
		want = append(want, api.MaxDisks-1-i)
	}
	if l, e := Rank(rows); len(rows) != 17 || e != api.OK || !slices.Equal(l, want) {
		t.Errorf("%v, %d", l, e)
	}
	if l, e := Rank(append(rows, nil)); e != api.ErrArg || l != nil {
		t.Errorf("18 rows: %v, %d", l, e)
	}
	if l, e := Rank(make([][]float64, 1000)); e != api.ErrArg || l != nil {
		t.Errorf("1000 rows: %v, %d", l, e)
	}
}

// ranked is Rank by the library's sort.
func ranked(rows [][]float64) []int {
	l := make([]int, len(rows))
	for i := range l {
		l[i] = i
	}
	slices.SortStableFunc(l, func(p, q int) int {
		if len(rows[p]) == 0 || len(rows[q]) == 0 {
			return min(len(rows[q]), 1) - min(len(rows[p]), 1)
		}
		return Compare(slices.MaxFunc(rows[q], Compare), slices.MaxFunc(rows[p], Compare))
	})
	return l
}

func TestRankOfAnyRows(t *testing.T) { // P2.3
	r := rand.New(rand.NewSource(3))
	l := values()
	for range 2000 {
		rows := make([][]float64, r.Intn(api.MaxDisks+1))
		for i := range rows {
			for range r.Intn(4) {
				rows[i] = append(rows[i], l[r.Intn(len(l))])
			}
		}
		if got, e := Rank(rows); e != api.OK || !slices.Equal(got, ranked(rows)) {
			t.Errorf("Rank(%v) = %v, %d", rows, got, e)
		}
	}
}

func TestSmoothedLiesBetween(t *testing.T) { // P2.5
	// Numbers of few bits, so that no step rounds.
	for a := -16; a <= 16; a++ {
		for b := -16; b <= 16; b++ {
			for w := 0; w <= 16; w++ {
				old, x, weight := float64(a)/4, float64(b)/4, float64(w)/16
				y := Smooth(old, x, weight)
				if y < min(old, x) || y > max(old, x) {
					t.Errorf("Smooth(%v, %v, %v) = %v", old, x, weight, y)
				}
			}
		}
	}
	// Where steps round, what is beyond is no more than they do.
	r := rand.New(rand.NewSource(4))
	for range 10000 {
		old, x, weight := r.NormFloat64(), r.NormFloat64(), r.Float64()
		slack := 1e-15 * max(math.Abs(old), math.Abs(x))
		y := Smooth(old, x, weight)
		if y < min(old, x)-slack || y > max(old, x)+slack {
			t.Errorf("Smooth(%v, %v, %v) = %v", old, x, weight, y)
		}
	}
}

func TestArgumentsStayAsTheyAre(t *testing.T) { // R3, R5
	whole := []float64{9, 3, math.NaN(), 1, 9}
	was := slices.Clone(whole)
	rows := [][]float64{whole[1:2], whole[1:4], whole[3:4]}
	Mean(rows[1])
	Worst(rows[1])
	first, _ := Rank(rows)
	kept := slices.Clone(first)
	for i := range first {
		first[i] = -1
	}
	if second, e := Rank(rows); e != api.OK || !slices.Equal(second, kept) {
		t.Errorf("%v, then %v, %d", kept, second, e)
	}
	if !slices.EqualFunc(whole, was, same) || len(rows[0]) != 1 || len(rows[1]) != 3 || len(rows[2]) != 1 {
		t.Errorf("%v became %v", was, whole)
	}
}

func TestNoCallPanics(t *testing.T) { // P1, R1
	l := append(values(), otherNaNs()...)
	for _, a := range ints() {
		for _, b := range ints() {
			Part(a, b)
		}
		for _, x := range l {
			if n := Steps(x, a); n < 0 || n > max(a, 0) {
				t.Errorf("Steps(%v, %d) = %d", x, a, n)
			}
		}
	}
	for _, a := range l {
		for _, b := range l {
			for _, c := range l {
				Smooth(a, b, c)
			}
			Compare(a, b)
			Mean([]float64{a, b})
			Worst([]float64{a, b})
			Rank([][]float64{{a}, nil, {b, a}})
		}
	}
}
