package tests

import (
	"math"
	"testing"

	"loop.example/shortestates/impl"
)

func wantNoCase(t *testing.T, what string, c, result impl.Case, ok bool) {
	t.Helper()
	if ok || result.Estate != 0 || len(result.Claims) != 0 {
		t.Fatal(what, c, result, ok)
	}
}

func TestInvalidCases(t *testing.T) {
	for _, c := range invalidCases() {
		if impl.CaseOk(c) {
			t.Fatal("ok", c)
		}
		if x := impl.OwedOf(c); x != -1 {
			t.Fatal("owed", c, x)
		}
		other, ok := impl.OtherCase(c)
		wantNoCase(t, "other", c, other, ok)
		cut, ok := impl.CutCase(c)
		wantNoCase(t, "cut", c, cut, ok)
		left, ok := impl.RestCase(c)
		wantNoCase(t, "rest", c, left, ok)
		if x := impl.RightsOf(c); x != nil {
			t.Fatal("rights", c, x)
		}
	}
}

// likelyAwards returns rows for a value that is no case, as they would be awards if it were one, so that only the case itself can be the reason.
func likelyAwards(c impl.Case) [][]int {
	claims := make([]int, len(c.Claims))
	for i, claim := range c.Claims {
		claims[i] = impl.Parts * claim
	}
	first := make([]int, len(c.Claims))
	if len(first) > 0 {
		first[0] = impl.Parts * c.Estate
	}
	return [][]int{nil, make([]int, len(c.Claims)), claims, first}
}

// The order is as it would be for a case, too.
func TestInvalidCasesWithOrdersAndAwards(t *testing.T) {
	for _, c := range invalidCases() {
		order := make([]int, len(c.Claims))
		for i := range order {
			order[i] = i
		}
		named, ok := impl.NamedCase(c, order)
		wantNoCase(t, "named", c, named, ok)
		for _, row := range likelyAwards(c) {
			if impl.AwardsOk(c, row) {
				t.Fatal("awards", c, row)
			}
			if x := impl.LossesOf(c, row); x != nil {
				t.Fatal("losses", c, row, x)
			}
		}
	}
}

// noOrders has a case, and rows that are not orders of its people.
type noOrders struct {
	of   impl.Case
	rows [][]int
}

func invalidOrders() []noOrders {
	return []noOrders{
		{caseOf(5, 2, 4, 6), [][]int{
			nil, {}, {0}, {0, 1}, {1, 2}, {0, 1, 2, 3}, {0, 1, 2, 0}, {0, 1, 2, 2}, make([]int, 1000),
			{0, 0, 0}, {0, 0, 1}, {0, 1, 1}, {2, 1, 2}, {1, 2, 1}, {0, 0, 3},
			{1, 2, 3}, {3, 1, 2}, {0, 1, 3}, {-1, 0, 1}, {0, 1, -1}, {2, -2, 0}, {0, 1, 4},
			{math.MinInt, 1, 2}, {0, math.MaxInt, 1}, {0, 1, math.MinInt}, {1 << 32, 1, 2}, {0, 1, 1<<32 + 2},
		}},
		{caseOf(0, 0), [][]int{nil, {}, {1}, {-1}, {0, 0}, {0, 1}, {math.MaxInt}, {math.MinInt}, {1 << 32}}},
		{caseOf(3, 2, 4), [][]int{nil, {0}, {1}, {0, 0}, {1, 1}, {1, 2}, {2, 0}, {0, -1}, {-1, 1}, {0, 1, 2}, {1, 0, 0}}},
		{caseOf(48, 12, 12, 12, 12), [][]int{{0, 1, 2}, {0, 1, 2, 4}, {1, 2, 3, 4}, {0, 1, 2, 3, 4}, {3, 3, 3, 3}, {0, 1, 2, -1}, {0, 1, 2, 2}}},
	}
}

func TestInvalidOrders(t *testing.T) {
	for _, r := range invalidOrders() {
		for _, order := range r.rows {
			named, ok := impl.NamedCase(r.of, order)
			wantNoCase(t, "named", r.of, named, ok)
		}
	}
}

// noAwards has a case, and rows that are not its awards.
type noAwards struct {
	of   impl.Case
	rows [][]int
}

func invalidAwards() []noAwards {
	return []noAwards{
		{caseOf(5, 2, 4, 6), [][]int{
			nil, {}, {240}, {48, 96}, {96, 144}, {48, 96, 96, 0}, {0, 0, 0, 240}, make([]int, 1000),
			{48, 96, 95}, {48, 96, 97}, {0, 0, 0}, {1, 2, 2}, {2, 4, 6}, {96, 192, 288},
			{97, 96, 47}, {47, 193, 0}, {-1, 96, 145}, {96, -1, 145}, {96, 145, -1}, {-48, 0, 288},
			{math.MaxInt, 96, 96}, {math.MinInt, 96, 96}, {math.MaxInt, math.MaxInt, 242},
			{math.MinInt, math.MinInt, 240}, {1 << 62, 1 << 63 >> 1, math.MinInt + 240},
			{1<<32 + 48, 96, 96}, {48, 96, 96 - 1<<32},
		}},
		{caseOf(0, 0), [][]int{nil, {}, {1}, {-1}, {0, 0}, {math.MaxInt}, {math.MinInt}}},
		{caseOf(0, 3, 9), [][]int{{0}, {1, -1}, {-1, 1}, {0, 1}, {0, 0, 0}, {144, 432}, {math.MinInt, math.MinInt}}},
		{caseOf(12, 12), [][]int{{575}, {577}, {12}, {576, 0}, {-576}}},
		{caseOf(48, 12, 12, 12, 12), [][]int{
			{576, 576, 576}, {576, 576, 576, 575}, {577, 576, 576, 575}, {576, 576, 576, 576, 0}, {577, 577, 577, 573},
		}},
	}
}

func TestInvalidAwards(t *testing.T) {
	for _, r := range invalidAwards() {
		for _, row := range r.rows {
			if impl.AwardsOk(r.of, row) {
				t.Fatal("awards", r.of, row)
			}
			if x := impl.LossesOf(r.of, row); x != nil {
				t.Fatal("losses", r.of, row, x)
			}
		}
	}
}

// Rows of drawn numbers, most of them of no use, are given to all functions.
func TestNoArgumentPanics(t *testing.T) {
	defer mustPanicNot(t, "chapter 1")
	numbers := []int{math.MinInt, -1 << 32, -13, -1, 0, 0, 1, 2, 3, 4, 5, 12, 13, 48, 96, 1 << 32, math.MaxInt}
	d := draws(1)
	for range 200000 {
		c := caseOf(numbers[d.below(len(numbers))], drawnRow(&d, numbers)...)
		row := drawnRow(&d, numbers)
		ok := impl.CaseOk(c)
		_, other := impl.OtherCase(c)
		_, cut := impl.CutCase(c)
		_, left := impl.RestCase(c)
		if other != ok || cut != ok || left != ok || (impl.OwedOf(c) != -1) != ok || (len(impl.RightsOf(c)) > 0) != ok {
			t.Fatal(c, ok, other, cut, left)
		}
		if _, named := impl.NamedCase(c, row); named && !ok {
			t.Fatal(c, row)
		}
		awards := impl.AwardsOk(c, row)
		if awards && !ok || (len(impl.LossesOf(c, row)) > 0) != awards {
			t.Fatal(c, row, awards)
		}
	}
}
