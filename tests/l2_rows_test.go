package tests

import (
	"math"
	"math/big"
	"slices"
	"testing"

	"loop.example/shortestates/impl"
)

// evenRowByDefinition tells anew, from the sentence of the document, what EvenRow returns: it tries each whole level.
func evenRowByDefinition(claims []int, estate int) ([]int, bool) {
	if len(claims) < 1 || len(claims) > 4 || slices.Min(claims) < 0 || slices.Max(claims) > 576 {
		return nil, false
	}
	row := make([]int, len(claims))
	for level := 0; level <= 576; level++ {
		for i, claim := range claims {
			row[i] = min(claim, level)
		}
		if total(row) == estate {
			return row, true
		}
	}
	return nil, false
}

// moreEvenByDefinition tells anew what MoreEven reports, with sums of any size.
func moreEvenByDefinition(a, b []int) bool {
	if len(a) != len(b) || len(a) < 1 || len(a) > 4 {
		return false
	}
	first, second := slices.Sorted(slices.Values(a)), slices.Sorted(slices.Values(b))
	lead := new(big.Int)
	for i := range first {
		lead.Add(lead, big.NewInt(int64(first[i])))
		lead.Sub(lead, big.NewInt(int64(second[i])))
		if lead.Sign() < 0 {
			return false
		}
	}
	return lead.Sign() == 0
}

func checkEvenRow(t *testing.T, claims []int, estate int) {
	t.Helper()
	want, wanted := evenRowByDefinition(claims, estate)
	row, ok := impl.EvenRow(claims, estate)
	if ok != wanted || !slices.Equal(row, want) {
		t.Fatal(claims, estate, row, ok, want, wanted)
	}
}

func TestEvenRowsByHand(t *testing.T) {
	for _, r := range []struct {
		claims []int
		estate int
		row    []int
	}{
		{[]int{10, 20}, 25, []int{10, 15}},
		{[]int{10, 20}, 4, []int{2, 2}},
		{[]int{10, 20}, 20, []int{10, 10}},
		{[]int{10, 20}, 21, []int{10, 11}},
		{[]int{10, 20}, 30, []int{10, 20}},
		{[]int{20, 10}, 25, []int{15, 10}},
		{[]int{0}, 0, []int{0}},
		{[]int{5}, 3, []int{3}},
		{[]int{576}, 576, []int{576}},
		{[]int{5, 5, 5}, 6, []int{2, 2, 2}},
		{[]int{3, 1, 2}, 5, []int{2, 1, 2}},
		{[]int{20, 1, 20, 20}, 22, []int{7, 1, 7, 7}},
		{[]int{0, 7, 0, 7}, 8, []int{0, 4, 0, 4}},
		{[]int{0, 0, 0, 0}, 0, []int{0, 0, 0, 0}},
		{[]int{576, 576, 576, 576}, 2300, []int{575, 575, 575, 575}},
		{[]int{576, 576, 576, 576}, 2304, []int{576, 576, 576, 576}},
	} {
		if x, ok := impl.EvenRow(r.claims, r.estate); !ok || !slices.Equal(x, r.row) {
			t.Fatal(r, x, ok)
		}
	}
}

// There would be a level for these, but it is not whole.
func TestNoSuchWholeNumbers(t *testing.T) {
	for _, r := range []struct {
		claims []int
		estate int
	}{
		{[]int{10, 20}, 5}, {[]int{10, 20}, 19}, {[]int{10, 20}, 1}, {[]int{20, 10}, 5},
		{[]int{5, 5, 5}, 7}, {[]int{5, 5, 5}, 14}, {[]int{0, 7, 0, 7}, 7}, {[]int{3, 1, 2}, 4},
		{[]int{20, 1, 20, 20}, 20}, {[]int{576, 576, 576, 576}, 2303}, {[]int{576, 576, 576, 576}, 2302},
	} {
		if x, ok := impl.EvenRow(r.claims, r.estate); ok || x != nil {
			t.Fatal(r, x, ok)
		}
	}
}

func TestEvenRowsByDefinition(t *testing.T) {
	amounts := []int{0, 1, 2, 3, 5, 8}
	for people := 1; people <= 4; people++ {
		for _, claims := range claimRows(people, amounts) {
			for estate := -1; estate <= total(claims)+1; estate++ {
				checkEvenRow(t, claims, estate)
			}
		}
	}
	d := draws(14)
	for range 20000 {
		claims := drawnClaims(&d)
		checkEvenRow(t, claims, d.below(total(claims)+1))
	}
}

// drawnClaims returns 1..MaxClaimants claims in parts, some of them equal.
func drawnClaims(d *draws) []int {
	claims := make([]int, 1+d.below(4))
	for i := range claims {
		claims[i] = d.below(577)
		if i > 0 && d.below(3) == 0 {
			claims[i] = claims[i-1]
		}
	}
	return claims
}

// Promise 14.
func TestWhoGoesAwayLeavesTheOthersEven(t *testing.T) {
	d := draws(15)
	check := func(claims []int, estate int) bool {
		row, ok := impl.EvenRow(claims, estate)
		if !ok {
			return false
		}
		if len(row) != len(claims) || total(row) != estate {
			t.Fatal(claims, estate, row)
		}
		last := len(claims) - 1
		others, fits := impl.EvenRow(claims[:last], estate-row[last])
		if fits != (last > 0) || !slices.Equal(others, row[:last]) {
			t.Fatal(claims, estate, row, others, fits)
		}
		return true
	}
	for _, c := range validCases() {
		if !check(inParts(c.Claims), 48*c.Estate) {
			t.Fatal("even awards of a case are whole", c)
		}
	}
	for range 20000 {
		claims := drawnClaims(&d)
		check(claims, d.below(total(claims)+1))
	}
}

func TestMoreEvenByHand(t *testing.T) {
	for _, r := range []struct {
		a, b        []int
		ahead, back bool
	}{
		{[]int{2, 3, 2}, []int{1, 2, 4}, true, false},
		{[]int{1, 3}, []int{0, 4}, true, false},
		{[]int{3, 1}, []int{4, 0}, true, false},
		{[]int{0, 0}, []int{-1, 1}, true, false},
		{[]int{1, 1, 1, 1}, []int{0, 0, 0, 4}, true, false},
		{[]int{1, 2, 3, 4}, []int{1, 2, 2, 5}, true, false},
		{[]int{1, 3}, []int{3, 1}, true, true},
		{[]int{7}, []int{7}, true, true},
		{[]int{0, 0, 0, 0}, []int{0, 0, 0, 0}, true, true},
		{[]int{1, 1, 4}, []int{0, 3, 3}, false, false},
		{[]int{1}, []int{2}, false, false},
		{[]int{2, 2}, []int{2, 3}, false, false},
		{[]int{0, 5}, []int{3, 3}, false, false},
		{[]int{1, 2, 3}, []int{1, 2, 4}, false, false},
	} {
		if impl.MoreEven(r.a, r.b) != r.ahead || impl.MoreEven(r.b, r.a) != r.back {
			t.Fatal(r, impl.MoreEven(r.a, r.b), impl.MoreEven(r.b, r.a))
		}
	}
}

// Sums are exact: none of these rows have the same sum, but those that say so.
func TestMoreEvenOfGreatNumbers(t *testing.T) {
	for _, r := range []struct {
		a, b []int
		want bool
	}{
		{[]int{math.MaxInt, math.MaxInt}, []int{-1, -1}, false},
		{[]int{math.MinInt, math.MinInt}, []int{0, 0}, false},
		{[]int{0, 0}, []int{math.MinInt, math.MinInt}, false},
		{[]int{1 << 62, 1 << 62, 1 << 62, 1 << 62}, []int{0, 0, 0, 0}, false},
		{[]int{math.MaxInt, 1}, []int{math.MinInt, 0}, false},
		{[]int{1 << 32}, []int{0}, false},
		{[]int{1 << 32, 0}, []int{0, 1}, false},
		{[]int{math.MaxInt, math.MaxInt, math.MaxInt, math.MaxInt}, []int{math.MaxInt, math.MaxInt, math.MaxInt, math.MaxInt}, true},
		{[]int{math.MinInt, math.MinInt, math.MinInt, math.MinInt}, []int{math.MinInt, math.MinInt, math.MinInt, math.MinInt}, true},
		{[]int{-1, 0}, []int{math.MinInt, math.MaxInt}, true},
		{[]int{math.MinInt, math.MaxInt}, []int{-1, 0}, false},
		{[]int{math.MaxInt - 1, math.MaxInt - 1}, []int{math.MaxInt, math.MaxInt - 2}, true},
		{[]int{math.MinInt + 1, math.MinInt + 1}, []int{math.MinInt + 2, math.MinInt}, true},
		{[]int{math.MinInt + 2, math.MinInt}, []int{math.MinInt + 1, math.MinInt + 1}, false},
	} {
		if impl.MoreEven(r.a, r.b) != r.want || moreEvenByDefinition(r.a, r.b) != r.want {
			t.Fatal(r)
		}
	}
}

func TestMoreEvenByDefinition(t *testing.T) {
	var rows [][]int
	for people := 1; people <= 4; people++ {
		rows = append(rows, claimRows(people, []int{-1, 0, 2, 3})...)
	}
	for _, a := range rows {
		for _, b := range rows {
			if impl.MoreEven(a, b) != moreEvenByDefinition(a, b) {
				t.Fatal(a, b)
			}
		}
	}
}

// meanRow returns the row in which each number is the sum, divided by how many there are, and whether that leaves nothing.
func meanRow(row []int) ([]int, bool) {
	mean := total(row) / len(row)
	means := make([]int, len(row))
	for i := range means {
		means[i] = mean
	}
	return means, mean*len(row) == total(row)
}

// Promise 15.
func TestAsEvenBothWaysIsTheSameInOrder(t *testing.T) {
	d := draws(16)
	seen := 0
	for range 20000 {
		row := make([]int, 1+d.below(4))
		for i := range row {
			row[i] = d.below(1200) - 600
		}
		behind := slices.Clone(row)
		slices.Reverse(behind)
		if !impl.MoreEven(row, row) || !impl.MoreEven(row, behind) || !impl.MoreEven(behind, row) {
			t.Fatal(row)
		}
		means, whole := meanRow(row)
		if !whole {
			continue
		}
		seen++
		if !impl.MoreEven(means, row) {
			t.Fatal(row, means)
		}
		if !slices.Equal(means, row) && impl.MoreEven(row, means) {
			t.Fatal("both ways, but not the same in order", row, means)
		}
	}
	if seen < 1000 {
		t.Fatal("too few rows with a mean", seen)
	}
}

// Rows that are as even both ways have the same numbers.
func TestNoOthersAreAsEvenBothWays(t *testing.T) {
	rows := claimRows(3, []int{0, 1, 2, 3, 4})
	for _, a := range rows {
		for _, b := range rows {
			same := slices.Equal(slices.Sorted(slices.Values(a)), slices.Sorted(slices.Values(b)))
			if (impl.MoreEven(a, b) && impl.MoreEven(b, a)) != same {
				t.Fatal(a, b)
			}
		}
	}
}
