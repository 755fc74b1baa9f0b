package tests

import (
	"slices"
	"testing"

	"loop.example/shortestates/impl"
)

// shareRowsOf calls all functions of chapter 3 that return rows, and returns these.
func shareRowsOf(c impl.Case, awards []int) [][]int {
	return [][]int{impl.ShareRow(c), impl.WholeAwards(c, awards), impl.WholeShares(c)}
}

// reportsOf returns what the functions of chapter 3 report of awards.
func reportsOf(c impl.Case, awards []int) [3]bool {
	return [3]bool{impl.KeepsOrder(c, awards), impl.RatesRise(c, awards), impl.RatesFall(c, awards)}
}

// Spoiled results change neither arguments nor other results, and arguments that change later change no results.
func TestSharesAreNewMemory(t *testing.T) {
	for _, r := range []struct {
		of     impl.Case
		awards []int
	}{
		{caseOf(7, 6, 2, 4), []int{208, 16, 112}}, {caseOf(1, 6, 2, 4), []int{0, 0, 48}},
		{caseOf(0, 0), []int{0}}, {caseOf(0, 6, 2, 4), []int{0, 0, 0}}, {caseOf(12, 6, 2, 4), []int{288, 96, 192}},
		{caseOf(48, 12, 12, 12, 12), []int{576, 576, 576, 576}}, {caseOf(3, 6, 0, 6, 6), []int{47, 0, 49, 48}},
		{caseOf(1, 12), []int{48}}, {caseOf(1, 1), []int{48}},
	} {
		claims, memoryOfClaims := guarded(r.of.Claims...)
		awards, memoryOfAwards := guarded(r.awards...)
		c := caseOf(r.of.Estate, claims...)
		memories := [][]int{memoryOfClaims, memoryOfAwards}
		before, reports := cloneRows(memories), reportsOf(c, awards)
		if reportsOf(c, awards) != reports || !slices.Equal(memoryOfClaims, before[0]) || !slices.Equal(memoryOfAwards, before[1]) {
			t.Fatal("an argument is written to", r, reports, memories)
		}
		checkNewMemory(t, r, len(claims), memories, func() [][]int { return shareRowsOf(c, awards) })
	}
}

func TestArgumentsOfChapter3Stay(t *testing.T) {
	checkArgumentsStay(t, 23, func(c impl.Case, awards []int) any {
		return []any{shareRowsOf(c, awards), reportsOf(c, awards)}
	})
}
