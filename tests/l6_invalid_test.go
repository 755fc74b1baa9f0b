package tests

import (
	"math"
	"slices"
	"testing"

	"loop.example/shortestates/impl"
)

func wantNoWorth(t *testing.T, c impl.Case, set int) {
	t.Helper()
	if x := impl.WorthOf(c, set); x != -1 {
		t.Fatal("worth", c, set, x)
	}
}

// wantNoMisses checks of a row that is not of awards of a case that it is not in the core either, and that nothing is missed by it.
func wantNoMisses(t *testing.T, c impl.Case, row []int) {
	t.Helper()
	if impl.CoreOk(c, row) {
		t.Fatal("core", c, row)
	}
	if x := impl.MissRow(c, row); x != nil {
		t.Fatal("misses", c, row, x)
	}
}

func TestInvalidCasesOfChapter6(t *testing.T) {
	for _, c := range invalidCases() {
		if x := impl.WorthRow(c); x != nil {
			t.Fatal("worths", c, x)
		}
		for _, set := range []int{0, 1, 2, 3, 7, 15, 16, 31, 32, -1, c.Estate, 1 << 32, math.MaxInt, math.MinInt} {
			wantNoWorth(t, c, set)
		}
		for _, row := range append(likelyAwards(c), halfOf(c.Claims), []int{0}, []int{0, 0, 0}) {
			wantNoMisses(t, c, row)
		}
	}
}

func TestInvalidSets(t *testing.T) {
	for _, claims := range [][]int{{0}, {12}, {2, 4}, {2, 4, 6}, {0, 0, 0}, {1, 2, 3, 8}, {12, 12, 12, 12}} {
		sets := twoTo(len(claims))
		for estate := 0; estate <= total(claims); estate++ {
			c := caseOf(estate, claims...)
			for _, set := range []int{
				-1, -2, -sets, 1 - sets, -1 << 32, -1<<32 + 1, math.MinInt, math.MinInt + 1,
				sets, sets + 1, 2*sets - 1, 2 * sets, 16, 17, 64, 1000, 1 << 32, 1<<32 + 1, 1 << 62, math.MaxInt,
			} {
				wantNoWorth(t, c, set)
			}
		}
	}
}

// Many of the rows that are listed here have the right sum, or would have it if sums were to wrap around.
func TestInvalidRowsOfChapter6(t *testing.T) {
	for _, r := range append(invalidAwards(),
		noAwards{caseOf(9, 2, 4, 6), [][]int{
			nil, {}, {432}, {48, 384}, {48, 144, 240, 0}, {48, 144, 239}, {48, 144, 241}, {0, 0, 0}, {96, 192, 288},
			{100, 92, 240}, {97, 191, 144}, {0, 143, 289}, {96, 193, 143}, {-1, 193, 240}, {576, 0, -144}, {577, 0, -145}, {0, 0, 432},
			{1<<32 + 48, 144, 240}, {48, 144, 240 - 1<<32}, {math.MaxInt, math.MaxInt, 434}, {math.MinInt, math.MinInt, 432},
		}},
		noAwards{caseOf(3, 2, 4), [][]int{nil, {}, {144}, {48, 95}, {48, 97}, {97, 47}, {-1, 145}, {145, -1}, {48, 96, 0}, {math.MinInt + 144, math.MinInt}}},
		noAwards{caseOf(0, 2, 4, 6), [][]int{{-1, 0, 1}, {0, 0}, {0, 0, 0, 0}, {96, 192, 288}, {math.MinInt, math.MinInt, 0}}},
		noAwards{caseOf(12, 2, 4, 6), [][]int{{97, 191, 288}, {96, 193, 287}, {96, 192, 289}, {576, 0, 0}, {96, 192}}},
		noAwards{caseOf(7, 12), [][]int{nil, {}, {335}, {337}, {7}, {0}, {576}, {577}, {-336}, {336, 0}, {1<<32 + 336}, {math.MaxInt}, {math.MinInt}}},
		noAwards{caseOf(0, 0, 0, 0, 0), [][]int{{1, 1, 1, 1}, {1, -1, 0, 0}, {0, 0, 0}, {0, 0, 0, 0, 0}, {1 << 62, 1 << 62, 1 << 62, 1 << 62}}},
		noAwards{caseOf(48, 12, 12, 12, 12), [][]int{{577, 575, 576, 576}, {576, 576, 576}, {576, 576, 576, 576, 0}, {2304, 0, 0, 0}, {1<<62 + 2304, 1 << 62, 1 << 62, 1 << 62}}},
	) {
		for _, row := range r.rows {
			wantNoMisses(t, r.of, row)
		}
	}
}

// Drawn numbers, most of them of no use, are given to all functions.
func TestNoArgumentPanicsInChapter6(t *testing.T) {
	defer mustPanicNot(t, "chapter 6")
	numbers := []int{math.MinInt, -1 << 32, -13, -1, 0, 0, 1, 2, 3, 4, 5, 12, 13, 16, 48, 96, 1 << 32, 1 << 62, math.MaxInt}
	d := draws(39)
	for range 200000 {
		c := caseOf(numbers[d.below(len(numbers))], drawnRow(&d, numbers)...)
		var worths []int
		if impl.CaseOk(c) {
			worths = worthsByDefinition(c)
		}
		if x := impl.WorthRow(c); !slices.Equal(x, worths) {
			t.Fatal(c, x, worths)
		}
		set := numbers[d.below(len(numbers))]
		if set < 0 || set >= len(worths) {
			wantNoWorth(t, c, set)
		} else if x := impl.WorthOf(c, set); x != worths[set] {
			t.Fatal(c, set, x, worths)
		}
		row := drawnRow(&d, numbers)
		if impl.AwardsOk(c, row) {
			checkMisses(t, c, row)
			checkCore(t, c, row)
		} else {
			wantNoMisses(t, c, row)
		}
		checkRowOrder(t, c.Claims, row, orderByDefinition(c.Claims, row))
	}
}
