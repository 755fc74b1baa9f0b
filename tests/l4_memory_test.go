package tests

import (
	"slices"
	"testing"

	"loop.example/shortestates/impl"
)

// Nothing is written to the memory of claims and awards, also behind their ends, whether the awards agree or not.
func TestPairsStay(t *testing.T) {
	for _, r := range []struct {
		of     impl.Case
		awards []int
		agree  bool
	}{
		{caseOf(9, 6, 2, 4), []int{240, 48, 144}, true}, {caseOf(9, 6, 2, 4), []int{168, 96, 168}, false},
		{caseOf(0, 0), []int{0}, true}, {caseOf(0, 6, 2, 4), []int{0, 0, 0}, true}, {caseOf(12, 6, 2, 4), []int{288, 96, 192}, true},
		{caseOf(48, 12, 12, 12, 12), []int{576, 576, 576, 576}, true}, {caseOf(3, 6, 0, 6, 6), []int{47, 0, 49, 48}, false},
		{caseOf(7, 12), []int{336}, true}, {caseOf(5, 6, 2, 4), []int{96, 48}, false}, {caseOf(13, 6, 2, 4), []int{288, 96, 192}, false},
	} {
		claims, memoryOfClaims := guarded(r.of.Claims...)
		awards, memoryOfAwards := guarded(r.awards...)
		before := cloneRows([][]int{memoryOfClaims, memoryOfAwards})
		for range 2 {
			if x := impl.PairsOk(caseOf(r.of.Estate, claims...), awards); x != r.agree {
				t.Fatal(r, x)
			}
		}
		if !slices.Equal(memoryOfClaims, before[0]) || !slices.Equal(memoryOfAwards, before[1]) {
			t.Fatal("an argument is written to", r, memoryOfClaims, memoryOfAwards)
		}
	}
}

// No call writes to its arguments, whatever they are, nor returns anything else when called again.
func TestArgumentsOfChapter4Stay(t *testing.T) {
	d := draws(29)
	for _, c := range append(validCases(), invalidCases()...) {
		before := copyOf(c)
		awards := []int{48 * d.below(3), 48 * d.below(3), 48 * d.below(3)}
		if impl.CaseOk(c) {
			awards, _ = halvesOf(c)
		}
		awardsBefore := slices.Clone(awards)
		agree := impl.PairsOk(c, awards)
		if !sameCase(c, before) || !slices.Equal(awards, awardsBefore) {
			t.Fatal("an argument is written to", before, c, awardsBefore, awards)
		}
		if agree != impl.CaseOk(c) || agree != impl.PairsOk(c, awards) {
			t.Fatal("called again", c, awards, agree)
		}
	}
}

// What PairTwice was asked before makes no difference.
func TestPairsOfTwoAreToldAlikeEachTime(t *testing.T) {
	for range 3 {
		for _, r := range []struct {
			first, second, estate, twiceFirst, twiceSecond int
			ok                                             bool
		}{
			{100, 50, 100, 150, 50, true}, {10, 4, 15, 0, 0, false}, {10, 4, 3, 3, 3, true}, {577, 4, 3, 0, 0, false}, {0, 0, 0, 0, 0, true},
		} {
			first, second, ok := impl.PairTwice(r.first, r.second, r.estate)
			if first != r.twiceFirst || second != r.twiceSecond || ok != r.ok {
				t.Fatal(r, first, second, ok)
			}
		}
	}
}
