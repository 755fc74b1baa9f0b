package tests

import (
	"math"
	"slices"
	"testing"

	"loop.example/shortestates/impl"
)

func wantNoMid(t *testing.T, c impl.Case, row []int) {
	t.Helper()
	if impl.MidOk(c, row) {
		t.Fatal(c, row)
	}
}

func TestInvalidCasesOfChapter5(t *testing.T) {
	// Of the first ones the estate is just half of all claims, so that half of each would be the awards.
	justHalf := []impl.Case{
		caseOf(0), caseOf(5, 2, 2, 2, 2, 2), caseOf(7, 14), caseOf(13, 26), caseOf(10, 14, 6),
		caseOf(-1, -2), caseOf(2, -2, 6), caseOf(0, -2, 2), caseOf(1<<32, 1<<33), caseOf(1<<31+1, 2, 1<<32),
	}
	for _, c := range append(justHalf, invalidCases()...) {
		if x := impl.HalfAwards(c); x != nil {
			t.Fatal("awards", c, x)
		}
		if x := impl.HalfLevel(c); x != -1 {
			t.Fatal("level", c, x)
		}
		for _, row := range append(likelyAwards(c), halfOf(c.Claims)) {
			wantNoMid(t, c, row)
		}
	}
}

// Many of the rows that are listed here would be at most half of the claims, or at least half, if they were awards.
func TestInvalidAwardsOfChapter5(t *testing.T) {
	for _, r := range append(invalidAwards(),
		noAwards{caseOf(4, 2, 4, 6), [][]int{nil, {}, {0, 0, 0}, {48, 72, 71}, {48, 72, 73}, {48, 96, 144}, {48, 72}, {48, 72, 72, 0}, {-48, 96, 144}, {-96, 144, 144}, {1, 2, 3}}},
		noAwards{caseOf(8, 2, 4, 6), [][]int{{48, 96, 144}, {48, 120, 215}, {48, 120, 217}, {96, 192, 288}, {97, 143, 144}, {96, 193, 144}, {48, 193, 144}, {48, 96, 289}, {1 << 62, 1 << 62, 1 << 62}}},
		noAwards{caseOf(6, 2, 4, 6), [][]int{{48, 96, 143}, {48, 96, 145}, {0, 0, 0}, {96, 192, 288}, {48, 96}, {48, 96, 144, 0}, {1<<32 + 48, 96, 144}, {48, 96, 144 - 1<<32}, {math.MinInt + 48, math.MinInt + 96, 144}}},
		noAwards{caseOf(0, 2, 4, 6), [][]int{{-1, 0, 1}, {-48, 0, 48}, {0, 0}, {0, 0, 0, 0}, {math.MinInt, math.MinInt, 0}}},
		noAwards{caseOf(12, 2, 4, 6), [][]int{{97, 191, 288}, {96, 193, 287}, {96, 192, 289}, {96, 192}}},
		noAwards{caseOf(6, 12), [][]int{nil, {}, {287}, {289}, {6}, {-288}, {288, 0}, {1<<32 + 288}, {math.MaxInt}, {math.MinInt}}},
		noAwards{caseOf(5, 0, 9), [][]int{{0, 239}, {0, 241}, {1, 239}, {-1, 241}, {240}, {0, 240, 0}}},
		noAwards{caseOf(0, 0, 0, 0, 0), [][]int{{1, 1, 1, 1}, {-1, -1, -1, -1}, {0, 0, 0}, {0, 0, 0, 0, 0}, {1 << 62, 1 << 62, 1 << 62, 1 << 62}}},
		noAwards{caseOf(48, 12, 12, 12, 12), [][]int{{577, 577, 577, 577}, {575, 575, 575, 575}, {576, 576, 576}, {576, 576, 576, 576, 0}}},
	) {
		for _, row := range r.rows {
			wantNoMid(t, r.of, row)
		}
	}
}

// Drawn numbers, most of them of no use, are given to all functions.
func TestNoArgumentPanicsInChapter5(t *testing.T) {
	defer mustPanicNot(t, "chapter 5")
	numbers := []int{math.MinInt, -1 << 32, -13, -1, 0, 0, 1, 2, 3, 4, 5, 12, 13, 24, 48, 96, 1 << 32, 1 << 62, math.MaxInt}
	d := draws(33)
	for range 200000 {
		c := caseOf(numbers[d.below(len(numbers))], drawnRow(&d, numbers)...)
		wantAwards, wantLevel := []int(nil), -1
		if impl.CaseOk(c) {
			wantAwards, wantLevel = halvesOf(c)
		}
		if x := impl.HalfAwards(c); !slices.Equal(x, wantAwards) {
			t.Fatal(c, x, wantAwards)
		}
		if x := impl.HalfLevel(c); x != wantLevel {
			t.Fatal(c, x, wantLevel)
		}
		if row := drawnRow(&d, numbers); impl.AwardsOk(c, row) {
			checkMid(t, c, row)
		} else {
			wantNoMid(t, c, row)
		}
	}
}
