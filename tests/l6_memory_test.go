package tests

import (
	"reflect"
	"slices"
	"testing"

	"loop.example/shortestates/impl"
)

// gameTold has what all functions of chapter 6 tell of awards of a case.
type gameTold struct {
	misses, worths []int
	core           bool
	worth, order   int
}

func gameOf(c impl.Case, awards []int) gameTold {
	return gameTold{
		misses: impl.MissRow(c, awards), worths: impl.WorthRow(c), core: impl.CoreOk(c, awards),
		worth: impl.WorthOf(c, 1), order: impl.RowOrder(c.Claims, awards),
	}
}

// Spoiled results change neither arguments nor other results, and arguments that change later change no results.
func TestRowsOfTheGameAreNewMemory(t *testing.T) {
	for _, r := range missCases() {
		for _, rowsOf := range []struct {
			numbers int
			call    func(c impl.Case, awards []int) [][]int
		}{
			{len(r.misses), func(c impl.Case, awards []int) [][]int { return [][]int{impl.MissRow(c, awards)} }},
			{len(r.misses) + 2, func(c impl.Case, awards []int) [][]int { return [][]int{impl.WorthRow(c)} }},
		} {
			claims, memoryOfClaims := guarded(r.of.Claims...)
			awards, memoryOfAwards := guarded(r.awards...)
			memories := [][]int{memoryOfClaims, memoryOfAwards}
			c := caseOf(r.of.Estate, claims...)
			checkNewMemory(t, r, rowsOf.numbers, memories, func() [][]int { return rowsOf.call(c, awards) })
		}
	}
}

// Nothing is written to the memory of claims and awards, also behind their ends, whether the awards are in the core or not.
func TestArgumentsOfTheGameStay(t *testing.T) {
	cases := append(missCases(),
		missCase{of: caseOf(9, 6, 2, 4), awards: []int{240, 92, 100}},
		missCase{of: caseOf(9, 6, 2, 4), awards: []int{432, 0}},
		missCase{of: caseOf(13, 6, 2, 4), awards: []int{288, 96, 240}},
	)
	for _, r := range cases {
		claims, memoryOfClaims := guarded(r.of.Claims...)
		awards, memoryOfAwards := guarded(r.awards...)
		before := cloneRows([][]int{memoryOfClaims, memoryOfAwards})
		first := gameOf(caseOf(r.of.Estate, claims...), awards)
		again := gameOf(caseOf(r.of.Estate, claims...), awards)
		if !reflect.DeepEqual(first, again) || first.core != impl.AwardsOk(r.of, r.awards) {
			t.Fatal(r, first, again)
		}
		if !slices.Equal(memoryOfClaims, before[0]) || !slices.Equal(memoryOfAwards, before[1]) {
			t.Fatal("an argument is written to", r, memoryOfClaims, memoryOfAwards)
		}
	}
}

func TestArgumentsOfChapter6Stay(t *testing.T) {
	checkArgumentsStay(t, 40, func(c impl.Case, awards []int) any { return gameOf(c, awards) })
}
