package tests

import (
	"slices"
	"testing"

	"loop.example/shortestates/impl"
)

// visitedOf returns for each pass the houses that were visited with it.
func visitedOf(houses int, visits []int) [][]int {
	var visited [][]int
	for _, set := range visits {
		members, _ := membersOf(set, houses)
		visited = append(visited, members)
	}
	return visited
}

// allWithin reports whether all of some houses are among others.
func allWithin(some, others []int) bool {
	for _, house := range some {
		if !slices.Contains(others, house) {
			return false
		}
	}
	return true
}

// worthsByPasses tells anew, from the sentence of the document, what each set of houses is worth, pass by pass.
func worthsByPasses(houses int, visits []int) []int {
	worths := make([]int, twoTo(houses))
	for _, visited := range visitedOf(houses, visits) {
		for set := range worths {
			if members, _ := membersOf(set, houses); len(visited) > 0 && allWithin(visited, members) {
				worths[set]++
			}
		}
	}
	return worths
}

// Promise 65: of any two sets, of all visits, in drawn orders of the passes.
func TestToMoreHousesAFurtherOneBringsNoLess(t *testing.T) {
	d := draws(65)
	for houses := 1; houses <= 4; houses++ {
		for _, row := range risingVisits(houses) {
			visits := drawnPlaces(&d, row)
			worths := worthsOf(houses, visits)
			if want := worthsByPasses(houses, visits); worths[0] != 0 || !slices.Equal(worths, want) {
				t.Fatal(houses, visits, worths, want)
			}
			for set := range worths {
				for other := range set {
					union, common := bothOf(set, other, houses)
					if worths[set]+worths[other] > worths[union]+worths[common] {
						t.Fatal(houses, visits, set, other, worths)
					}
				}
			}
		}
	}
}

// No houses are worth nothing, all houses all passes with visits, and one house the passes with which it alone was visited.
func TestSetsOfNobodyOfOneHouseAndOfAllAreWorth(t *testing.T) {
	for houses := 1; houses <= 4; houses++ {
		for _, visits := range fewVisits(houses) {
			if x := impl.PassWorth(houses, visits, 0); x != 0 {
				t.Fatal("nobody", houses, visits, x)
			}
			withVisits := slices.DeleteFunc(slices.Clone(visits), func(set int) bool { return set == 0 })
			if x := impl.PassWorth(houses, visits, twoTo(houses)-1); x != len(withVisits) {
				t.Fatal("all", houses, visits, x)
			}
			for house := range houses {
				alone := slices.DeleteFunc(slices.Clone(visits), func(set int) bool { return set != twoTo(house) })
				if x := impl.PassWorth(houses, visits, twoTo(house)); x != len(alone) {
					t.Fatal("one house", houses, visits, house, x)
				}
			}
		}
	}
}
