package tests

import (
	"slices"
	"testing"

	"loop.example/shortestates/impl"
)

// halfCase has what HalfAwards and HalfLevel return for a case, reckoned by hand.
type halfCase struct {
	of     impl.Case
	awards []int
	level  int
}

func halfCases() []halfCase {
	return []halfCase{
		{caseOf(4, 2, 4, 6), []int{48, 72, 72}, 72},
		{caseOf(6, 2, 4, 6), []int{48, 96, 144}, 144},
		{caseOf(9, 2, 4, 6), []int{48, 144, 240}, 48},
		{caseOf(5, 2, 4, 6), []int{48, 96, 96}, 96},
		{caseOf(7, 2, 4, 6), []int{48, 96, 192}, 96},
		{caseOf(1, 2, 4, 6), []int{16, 16, 16}, 16},
		{caseOf(11, 2, 4, 6), []int{80, 176, 272}, 16},
		{caseOf(0, 2, 4, 6), []int{0, 0, 0}, 0},
		{caseOf(12, 2, 4, 6), []int{96, 192, 288}, 0},
		{caseOf(6, 6, 2, 4), []int{144, 48, 96}, 144},
		// All claims together are odd: no estate is just half of them.
		{caseOf(3, 1, 2, 4), []int{24, 48, 72}, 72},
		{caseOf(4, 1, 2, 4), []int{24, 48, 120}, 72},
		{caseOf(3, 3, 4), []int{72, 72}, 72},
		{caseOf(4, 3, 4), []int{72, 120}, 72},
		{caseOf(6, 1, 12), []int{24, 264}, 264},
		{caseOf(7, 1, 12), []int{24, 312}, 264},
		{caseOf(10, 12, 1, 8), []int{264, 24, 192}, 264},
		{caseOf(11, 12, 1, 8), []int{312, 24, 192}, 264},
		{caseOf(15, 12, 1, 8), []int{444, 24, 252}, 132},
		{caseOf(2, 5), []int{96}, 96},
		{caseOf(3, 5), []int{144}, 96},
		{caseOf(0, 1), []int{0}, 0},
		{caseOf(1, 1), []int{48}, 0},
		{caseOf(5, 12), []int{240}, 240},
		{caseOf(6, 12), []int{288}, 288},
		{caseOf(7, 12), []int{336}, 240},
		{caseOf(12, 12), []int{576}, 0},
		{caseOf(0, 0), []int{0}, 0},
		{caseOf(0, 0, 0), []int{0, 0}, 0},
		{caseOf(0, 0, 0, 0, 0), []int{0, 0, 0, 0}, 0},
		{caseOf(4, 0, 9), []int{0, 192}, 192},
		{caseOf(5, 0, 9), []int{0, 240}, 192},
		{caseOf(9, 0, 9, 0, 9), []int{0, 216, 0, 216}, 216},
		{caseOf(4, 5, 0, 5), []int{96, 0, 96}, 96},
		{caseOf(5, 5, 0, 5), []int{120, 0, 120}, 120},
		{caseOf(6, 5, 0, 5), []int{144, 0, 144}, 96},
		{caseOf(1, 12, 12, 12, 12), []int{12, 12, 12, 12}, 12},
		{caseOf(23, 12, 12, 12, 12), []int{276, 276, 276, 276}, 276},
		{caseOf(24, 12, 12, 12, 12), []int{288, 288, 288, 288}, 288},
		{caseOf(25, 12, 12, 12, 12), []int{300, 300, 300, 300}, 276},
		{caseOf(47, 12, 12, 12, 12), []int{564, 564, 564, 564}, 12},
		{caseOf(48, 12, 12, 12, 12), []int{576, 576, 576, 576}, 0},
	}
}

func TestHalvesByHand(t *testing.T) {
	for _, r := range halfCases() {
		if x := impl.HalfAwards(r.of); !slices.Equal(x, r.awards) {
			t.Fatal("awards", r.of, x)
		}
		if x := impl.HalfLevel(r.of); x != r.level {
			t.Fatal("level", r.of, x)
		}
	}
}

// Promise 28.
func TestAwardsThatAgreeForEachTwoAreOneAlone(t *testing.T) {
	d := draws(30)
	for _, c := range validCases() {
		awards := impl.HalfAwards(c)
		if want, _ := halvesOf(c); !slices.Equal(awards, want) || !impl.AwardsOk(c, awards) {
			t.Fatal(c, awards, want)
		}
		if !impl.PairsOk(c, awards) || !impl.KeepsOrder(c, awards) {
			t.Fatal(c, awards, impl.PairsOk(c, awards), impl.KeepsOrder(c, awards))
		}
		other, _ := impl.OtherCase(c)
		if x := impl.HalfAwards(other); !slices.Equal(impl.LossesOf(other, x), awards) {
			t.Fatal("losses of the other case", c, awards, x)
		}
		for range 3 {
			if drawn := drawnAwards(&d, c); impl.PairsOk(c, drawn) != slices.Equal(drawn, awards) {
				t.Fatal("others", c, awards, drawn)
			}
		}
	}
	for _, s := range smallCases() {
		halves := impl.HalfAwards(s.of)
		for _, awards := range s.rows {
			if impl.PairsOk(s.of, awards) != slices.Equal(awards, halves) {
				t.Fatal("others", s.of, halves, awards)
			}
		}
	}
}

// Promise 30.
func TestCutClaimsAndRightsChangeNothingOfHalves(t *testing.T) {
	for _, c := range validCases() {
		awards := impl.HalfAwards(c)
		cut, _ := impl.CutCase(c)
		if x := impl.HalfAwards(cut); len(awards) != len(c.Claims) || !slices.Equal(x, awards) {
			t.Fatal(c, cut, awards, x)
		}
		left, _ := impl.RestCase(c)
		if x := impl.HalfAwards(left); !slices.Equal(x, less(awards, inParts(impl.RightsOf(c)))) {
			t.Fatal(c, left, awards, x)
		}
	}
}

// Promise 31.
func TestBothCasesHaveTheSameLevel(t *testing.T) {
	for _, c := range validCases() {
		level := impl.HalfLevel(c)
		other, _ := impl.OtherCase(c)
		if _, want := halvesOf(c); level != want || level != impl.HalfLevel(other) {
			t.Fatal(c, level, want, impl.HalfLevel(other))
		}
		greatest := 48 * slices.Max(c.Claims)
		if 2*level > greatest || 2*c.Estate == total(c.Claims) && 2*level != greatest {
			t.Fatal(c, level, greatest)
		}
		told := impl.HalfAwards(c)
		if 2*c.Estate > total(c.Claims) {
			told = impl.LossesOf(c, told)
		}
		if level != slices.Max(told) {
			t.Fatal("the greatest of all", c, level, told)
		}
		for i, claim := range c.Claims {
			if told[i] != min(24*claim, level) {
				t.Fatal("the lesser one of both", c, level, told)
			}
		}
	}
}

// With other places for the people halves are the same at these places.
func TestNamesChangeNoHalves(t *testing.T) {
	d := draws(31)
	for _, c := range validCases() {
		named, namedAwards := drawnNames(&d, c, impl.HalfAwards(c))
		if x := impl.HalfAwards(named); !slices.Equal(x, namedAwards) || impl.HalfLevel(named) != impl.HalfLevel(c) {
			t.Fatal(c, named, namedAwards, x)
		}
	}
}
