package tests

import (
	"slices"
	"testing"

	"loop.example/shortestates/impl"
)

// midOf returns what MidOk reports of awards, and HalfLevel of the case.
func midOf(c impl.Case, awards []int) (bool, int) {
	return impl.MidOk(c, awards), impl.HalfLevel(c)
}

// Nothing is written to the memory of claims and awards, also behind their ends, up to half of all claims and beyond.
func TestHalvesAreNewMemory(t *testing.T) {
	for _, r := range halfCases() {
		claims, memoryOfClaims := guarded(r.of.Claims...)
		awards, memoryOfAwards := guarded(r.awards...)
		memories := [][]int{memoryOfClaims, memoryOfAwards}
		before := cloneRows(memories)
		c := caseOf(r.of.Estate, claims...)
		for range 2 {
			if mid, level := midOf(c, awards); !mid || level != r.level {
				t.Fatal(r, mid, level)
			}
		}
		if !slices.Equal(memoryOfClaims, before[0]) || !slices.Equal(memoryOfAwards, before[1]) {
			t.Fatal("an argument is written to", r, memories)
		}
		checkNewMemory(t, r, len(claims), memories, func() [][]int { return [][]int{impl.HalfAwards(c)} })
	}
}

func TestArgumentsOfChapter5Stay(t *testing.T) {
	checkArgumentsStay(t, 34, func(c impl.Case, awards []int) any {
		mid, level := midOf(c, awards)
		return []any{impl.HalfAwards(c), mid, level}
	})
}
