// Package rate reckons with shares and rates, at all the edges of floats. See shared/doc.
package rate

import (
	"math"
	"slices"

	"ashlar/api"
)

// Part is so much of all.
func Part(done, all int) float64 {
	return float64(done) / float64(all)
}

// Mean is what numbers come to, one with another.
func Mean(l []float64) float64 {
	sum := 0.0
	for _, x := range l {
		sum += x
	}
	return sum / float64(len(l)) // of none this is 0 by 0, which is NaN
}

// Smooth goes from an old rate on to a new one.
func Smooth(old, x, weight float64) float64 {
	switch {
	case math.IsNaN(x):
		return old
	case math.IsNaN(old):
		return x
	case !(weight > 0): // so that a NaN is not above 0
		return old
	case weight >= 1:
		return x
	}
	// Each product is converted, so that no machine puts it into the sum without rounding it.
	return float64(old*(1-weight)) + float64(x*weight)
}

// Compare holds rates against each other: a nought below nought is the lesser one, no number the greatest.
func Compare(a, b float64) int {
	switch {
	case math.IsNaN(a) || math.IsNaN(b):
		return order(math.IsNaN(b), math.IsNaN(a))
	case a < b:
		return -1
	case a > b:
		return 1
	}
	return order(math.Signbit(a), math.Signbit(b)) // only of the two noughts do they differ here
}

// order is -1 if only the first one is to stand ahead, 1 if only the second one is, else 0.
func order(first, second bool) int {
	switch {
	case first == second:
		return 0
	case first:
		return -1
	}
	return 1
}

// Worst is the place of the greatest rate.
func Worst(l []float64) (int, bool) {
	place := 0
	for i, x := range l {
		if Compare(x, l[place]) > 0 {
			place = i
		}
	}
	return place, len(l) > 0
}

// Steps is how many steps a rate lets.
func Steps(rate float64, most int) int {
	switch {
	case most <= 0 || !(rate > 0): // so that a NaN is not above 0
		return 0
	case rate >= float64(most):
		return most
	}
	return int(math.Floor(rate))
}

// Rank is the order of rows by their worst rates, the greatest first; rows without rates stand last.
func Rank(rows [][]float64) ([]int, api.Errno) {
	if len(rows) > api.MaxDisks {
		return nil, api.ErrArg
	}
	tops := make([]top, len(rows))
	for p, row := range rows {
		tops[p] = topOf(row)
	}
	var places []int
nextRow:
	for p := range len(rows) {
		for k, q := range places {
			if tops[p].above(tops[q]) {
				places = slices.Insert(places, k, p)
				continue nextRow
			}
		}
		places = append(places, p)
	}
	return places, api.OK
}

// A top is the greatest rate of a row, if it has any.
type top struct {
	rate  float64
	there bool
}

func topOf(row []float64) top {
	place, there := Worst(row)
	if !there {
		return top{}
	}
	return top{row[place], true}
}

// above tells whether t's row stands ahead of u's, wherever the two stood.
func (t top) above(u top) bool {
	return t.there && (!u.there || Compare(t.rate, u.rate) > 0)
}
