package tests

import (
	"math"
	"testing"

	"loop.example/shortestates/impl"
)

func wantNoAwards(t *testing.T, c impl.Case, row []int) {
	t.Helper()
	if impl.KeepsOrder(c, row) || impl.RatesRise(c, row) || impl.RatesFall(c, row) {
		t.Fatal(c, row, impl.KeepsOrder(c, row), impl.RatesRise(c, row), impl.RatesFall(c, row))
	}
	if x := impl.WholeAwards(c, row); x != nil {
		t.Fatal(c, row, x)
	}
}

func TestInvalidCasesOfChapter3(t *testing.T) {
	for _, c := range invalidCases() {
		if x := impl.ShareRow(c); x != nil {
			t.Fatal("shares", c, x)
		}
		if x := impl.WholeShares(c); x != nil {
			t.Fatal("whole shares", c, x)
		}
		for _, row := range likelyAwards(c) {
			wantNoAwards(t, c, row)
		}
	}
}

// The rows that are listed here would have rates that rise, or fall, if they were awards, and most of them would keep the order.
func TestInvalidAwardsOfChapter3(t *testing.T) {
	for _, r := range invalidAwards() {
		for _, row := range r.rows {
			wantNoAwards(t, r.of, row)
		}
	}
	for _, r := range []noAwards{
		{caseOf(6, 2, 4, 6), [][]int{{0, 0, 0}, {96, 192, 288}, {47, 94, 141}, {49, 98, 147}, {48, 96}, {48, 96, 144, 0}}},
		{caseOf(2, 2, 2), [][]int{{47, 47}, {49, 49}, {48}, {48, 48, 0}, {-48, -48}, {1<<32 + 48, 1<<32 + 48}, {math.MinInt + 48, math.MinInt + 48}}},
		{caseOf(1, 1, 1), [][]int{{10, 37}, {10, 39}, {49, -1}, {-1, 49}, {10}, {10, 38, 0}, {10, 1<<32 + 38}, {math.MaxInt, math.MinInt + 49}}},
		{caseOf(19, 11, 11, 11), [][]int{{54, 529, 329}, {54, 528, 331}, {-54, 528, 438}, {54, 528}, {54, 528, 330, 0}}},
		{caseOf(4, 1, 3, 3), [][]int{{24, 72, 97}, {24, 72, 95}, {11, 36, 145}, {24, 168}, {48, 72, 73}, {49, 72, 71}}},
		{caseOf(0, 0, 0, 0, 0), [][]int{{1, 1, 1, 1}, {-1, -1, -1, -1}, {0, 0, 0}, {0, 0, 0, 0, 0}, {1 << 62, 1 << 62, 1 << 62, 1 << 62}}},
	} {
		for _, row := range r.rows {
			wantNoAwards(t, r.of, row)
		}
	}
}

// Rows of drawn numbers, most of them of no use, are given to all functions.
func TestNoArgumentPanicsInChapter3(t *testing.T) {
	defer mustPanicNot(t, "chapter 3")
	numbers := []int{math.MinInt, -1 << 32, -13, -1, 0, 0, 1, 2, 3, 4, 5, 12, 13, 48, 96, 1 << 32, 1 << 62, math.MaxInt}
	d := draws(24)
	for range 200000 {
		c := caseOf(numbers[d.below(len(numbers))], drawnRow(&d, numbers)...)
		row := drawnRow(&d, numbers)
		ok := impl.CaseOk(c)
		if (len(impl.ShareRow(c)) > 0) != ok || (len(impl.WholeShares(c)) > 0) != ok {
			t.Fatal(c, ok)
		}
		if !impl.AwardsOk(c, row) {
			wantNoAwards(t, c, row)
			continue
		}
		checkOrder(t, c, row)
		checkWhole(t, c, row)
	}
}
