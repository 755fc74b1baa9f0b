package tests

import (
	"math"
	"slices"
	"testing"

	"loop.example/shortestates/impl"
)

func TestInvalidCasesOfChapter2(t *testing.T) {
	for _, c := range invalidCases() {
		if x := impl.EvenAwards(c); x != nil {
			t.Fatal("awards", c, x)
		}
		if x := impl.EvenLevel(c); x != -1 {
			t.Fatal("level", c, x)
		}
		if x := impl.EvenLosses(c); x != nil {
			t.Fatal("losses", c, x)
		}
		if x := impl.LossLevel(c); x != -1 {
			t.Fatal("level of losses", c, x)
		}
	}
}

func wantNoRow(t *testing.T, claims []int, estate int) {
	t.Helper()
	if row, ok := impl.EvenRow(claims, estate); ok || row != nil {
		t.Fatal(claims, estate, row, ok)
	}
}

func TestInvalidNumbersOfClaims(t *testing.T) {
	for _, estate := range []int{-1, 0, 1, 5, 10, math.MaxInt, math.MinInt} {
		wantNoRow(t, nil, estate)
		wantNoRow(t, []int{}, estate)
		wantNoRow(t, []int{0, 0, 0, 0, 0}, estate)
		wantNoRow(t, []int{2, 2, 2, 2, 2}, estate)
		wantNoRow(t, make([]int, 1000), estate)
	}
}

// The estates would fit if the claims were in range, or if sums were to wrap around.
func TestInvalidClaimsInParts(t *testing.T) {
	for _, claim := range []int{-1, -576, -1 << 32, math.MinInt, 577, 1 << 32, 1<<32 + 5, 1 << 62, math.MaxInt} {
		for _, estate := range []int{-1, 0, 1, 4, 576, 577, claim, -claim} {
			wantNoRow(t, []int{claim}, estate)
			wantNoRow(t, []int{claim, 10}, estate)
			wantNoRow(t, []int{10, claim}, estate)
			wantNoRow(t, []int{10, 0, claim}, estate)
			wantNoRow(t, []int{10, 10, 10, claim}, estate)
			wantNoRow(t, []int{claim, claim, claim, claim}, estate)
		}
	}
	wantNoRow(t, []int{math.MinInt, math.MinInt}, 0)
	wantNoRow(t, []int{math.MaxInt, math.MaxInt, 2}, 0)
	wantNoRow(t, []int{-5, 10}, 5)
}

func TestInvalidEstatesInParts(t *testing.T) {
	for _, claims := range [][]int{{0}, {5}, {576}, {10, 20}, {0, 0, 0}, {3, 1, 2}, {576, 576, 576, 576}} {
		most := total(claims)
		for _, estate := range []int{-1, -2, -48, -1 << 32, math.MinInt, most + 1, most + 2, most + 4, 2305, 1 << 32, 1<<32 + most, 1 << 62, math.MaxInt} {
			wantNoRow(t, claims, estate)
		}
	}
}

func TestRowsThatAreNotCompared(t *testing.T) {
	for _, r := range []struct{ a, b []int }{
		{nil, nil}, {[]int{}, []int{}}, {nil, []int{0}}, {[]int{0}, nil},
		{[]int{0}, []int{0, 0}}, {[]int{0, 0}, []int{0}}, {[]int{1, 2, 3}, []int{1, 5}},
		{[]int{0, 0, 0, 0}, []int{0, 0, 0}}, {[]int{0, 0, 0, 0}, []int{0, 0, 0, 0, 0}},
		{[]int{0, 0, 0, 0, 0}, []int{0, 0, 0, 0, 0}}, {[]int{1, 1, 1, 1, 1}, []int{0, 0, 0, 0, 5}},
		{make([]int, 1000), make([]int, 1000)}, {make([]int, 1000), []int{0}},
		{[]int{1}, []int{2}}, {[]int{2}, []int{1}}, {[]int{2, 2}, []int{1, 2}}, {[]int{2, 2}, []int{2, 3}},
		{[]int{0, 0, 0, 1}, []int{0, 0, 0, 0}}, {[]int{math.MaxInt}, []int{math.MinInt}},
	} {
		if impl.MoreEven(r.a, r.b) || impl.MoreEven(r.b, r.a) {
			t.Fatal(r)
		}
	}
}

// Rows of drawn numbers, most of them of no use, are given to all functions.
func TestNoArgumentPanicsInChapter2(t *testing.T) {
	defer mustPanicNot(t, "chapter 2")
	numbers := []int{math.MinInt, -1 << 32, -13, -1, 0, 0, 1, 2, 3, 4, 5, 12, 13, 48, 576, 577, 1 << 32, 1 << 62, math.MaxInt}
	d := draws(2)
	for range 200000 {
		c := caseOf(numbers[d.below(len(numbers))], drawnRow(&d, numbers)...)
		row := drawnRow(&d, numbers)
		ok := impl.CaseOk(c)
		if (len(impl.EvenAwards(c)) > 0) != ok || (len(impl.EvenLosses(c)) > 0) != ok {
			t.Fatal(c, ok)
		}
		if (impl.EvenLevel(c) >= 0) != ok || (impl.LossLevel(c) >= 0) != ok {
			t.Fatal(c, ok)
		}
		checkEvenRow(t, c.Claims, c.Estate)
		if impl.MoreEven(c.Claims, row) != moreEvenByDefinition(c.Claims, row) {
			t.Fatal(c.Claims, row)
		}
		if behind := slices.Clone(row); len(row) >= 1 && len(row) <= 4 {
			slices.Reverse(behind)
			if !impl.MoreEven(row, behind) {
				t.Fatal(row)
			}
		}
	}
}
