package tests

import (
	"math"
	"testing"

	"loop.example/shortestates/impl"
)

func wantNoPair(t *testing.T, first, second, estate int) {
	t.Helper()
	if a, b, ok := impl.PairTwice(first, second, estate); ok || a != 0 || b != 0 {
		t.Fatal(first, second, estate, a, b, ok)
	}
}

// The estates would fit if the claims were in range, or if sums were to wrap around.
func TestInvalidClaimsOfTwo(t *testing.T) {
	claims := []int{-1, -2, -48, -576, -1 << 32, math.MinInt, math.MinInt + 1, 577, 578, 1152, 1 << 32, 1<<32 + 5, 1 << 62, math.MaxInt - 1, math.MaxInt}
	for _, claim := range claims {
		for _, estate := range []int{-1, 0, 1, 4, 9, 10, 576, 577, 1152, claim, claim + 10, -claim, math.MaxInt, math.MinInt} {
			for _, other := range []int{0, 1, 10, 576} {
				wantNoPair(t, claim, other, estate)
				wantNoPair(t, other, claim, estate)
			}
			for _, other := range claims {
				wantNoPair(t, claim, other, estate)
			}
		}
	}
}

func TestInvalidEstatesOfTwo(t *testing.T) {
	for _, claims := range claimRows(2, []int{0, 1, 4, 10, 575, 576}) {
		both := total(claims)
		for _, estate := range []int{
			-1, -2, -both - 1, -1 << 32, -1<<32 + both, math.MinInt, math.MinInt + both,
			both + 1, both + 2, both + 48, 1153, 1 << 32, 1<<32 + both, 1 << 62, math.MaxInt,
		} {
			wantNoPair(t, claims[0], claims[1], estate)
		}
	}
}

func wantNoPairs(t *testing.T, c impl.Case, row []int) {
	t.Helper()
	if impl.PairsOk(c, row) {
		t.Fatal(c, row)
	}
}

func TestInvalidCasesOfChapter4(t *testing.T) {
	for _, c := range invalidCases() {
		for _, row := range likelyAwards(c) {
			wantNoPairs(t, c, row)
		}
	}
}

// Many of the rows that are listed here would agree for each two if they were awards.
func TestInvalidAwardsOfChapter4(t *testing.T) {
	for _, r := range invalidAwards() {
		for _, row := range r.rows {
			wantNoPairs(t, r.of, row)
		}
	}
	for _, r := range []noAwards{
		{caseOf(3, 2, 4), [][]int{nil, {}, {48}, {144}, {48, 96, 0}, {0, 0}, {24, 24}, {48, 48}, {48, 95}, {48, 97}, {96, 192}, {49, 97}}},
		{caseOf(6, 2, 4, 6), [][]int{{0, 0, 0}, {48, 96, 143}, {48, 96, 145}, {47, 95, 143}, {96, 192, 288}, {48, 96}, {48, 96, 144, 0}}},
		{caseOf(2, 2, 2), [][]int{{47, 47}, {49, 49}, {48}, {48, 48, 0}, {-48, -48}, {144, 144}, {1<<32 + 48, 1<<32 + 48}, {math.MinInt + 48, math.MinInt + 48}}},
		{caseOf(7, 12), [][]int{nil, {}, {335}, {337}, {7}, {577}, {-336}, {336, 0}, {1<<32 + 336}, {math.MaxInt}, {math.MinInt}}},
		{caseOf(5, 0, 9), [][]int{{0, 239}, {0, 241}, {1, 239}, {-1, 241}, {240}, {0, 240, 0}}},
		{caseOf(0, 0, 0, 0, 0), [][]int{{1, 1, 1, 1}, {-1, -1, -1, -1}, {0, 0, 0}, {0, 0, 0, 0, 0}, {1 << 62, 1 << 62, 1 << 62, 1 << 62}}},
		{caseOf(48, 12, 12, 12, 12), [][]int{{577, 577, 577, 577}, {575, 575, 575, 575}, {576, 576, 576}, {576, 576, 576, 576, 0}}},
	} {
		for _, row := range r.rows {
			wantNoPairs(t, r.of, row)
		}
	}
}

// Drawn numbers, most of them of no use, are given to all functions.
func TestNoArgumentPanicsInChapter4(t *testing.T) {
	defer mustPanicNot(t, "chapter 4")
	numbers := []int{math.MinInt, -1 << 32, -13, -1, 0, 0, 1, 2, 3, 4, 5, 12, 13, 48, 96, 576, 577, 1 << 32, 1 << 62, math.MaxInt}
	d := draws(25)
	number := func() int { return numbers[d.below(len(numbers))] }
	for range 200000 {
		first, second, estate := number(), number(), number()
		if min(first, second, estate) < 0 || max(first, second) > 576 || estate > first+second {
			wantNoPair(t, first, second, estate)
		} else {
			checkPair(t, first, second, estate)
		}
		c := caseOf(number(), drawnRow(&d, numbers)...)
		row := drawnRow(&d, numbers)
		if !impl.AwardsOk(c, row) {
			wantNoPairs(t, c, row)
			continue
		}
		checkPairs(t, c, row)
	}
}
