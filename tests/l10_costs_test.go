package tests

import (
	"slices"
	"testing"

	"loop.example/shortestates/impl"
)

// costsByDefinition tells anew, from the sentence of the document, what each set of people with needs costs.
func costsByDefinition(needs []int) []int {
	var costs []int
	for set := range twoTo(len(needs)) {
		members, _ := membersOf(set, len(needs))
		cost := 0
		for _, person := range members {
			if needs[person] > cost {
				cost = needs[person]
			}
		}
		costs = append(costs, cost)
	}
	return costs
}

// costsOf asks what each set of people with needs costs.
func costsOf(needs []int) []int {
	var costs []int
	for set := range twoTo(len(needs)) {
		costs = append(costs, impl.RunwayCost(needs, set))
	}
	return costs
}

func TestCostsByHand(t *testing.T) {
	for _, r := range []struct{ needs, costs []int }{
		{[]int{3, 6, 6}, []int{0, 3, 6, 6, 6, 6, 6, 6}},
		{[]int{6, 3, 6}, []int{0, 6, 3, 6, 6, 6, 6, 6}},
		{[]int{5, 2, 4}, []int{0, 5, 2, 5, 4, 5, 4, 5}},
		{[]int{1, 2, 3, 8}, []int{0, 1, 2, 2, 3, 3, 3, 3, 8, 8, 8, 8, 8, 8, 8, 8}},
		{[]int{8, 3, 2, 1}, []int{0, 8, 3, 8, 2, 8, 3, 8, 1, 8, 3, 8, 2, 8, 3, 8}},
		{[]int{2, 5}, []int{0, 2, 5, 5}},
		{[]int{5, 2}, []int{0, 5, 2, 5}},
		{[]int{4, 4}, []int{0, 4, 4, 4}},
		// One person alone, and needs of nothing.
		{[]int{0}, []int{0, 0}},
		{[]int{5}, []int{0, 5}},
		{[]int{12}, []int{0, 12}},
		{[]int{0, 0, 0}, []int{0, 0, 0, 0, 0, 0, 0, 0}},
		{[]int{0, 0, 0, 0}, make([]int, 16)},
		{[]int{0, 4, 0, 10}, []int{0, 0, 4, 4, 0, 0, 4, 4, 10, 10, 10, 10, 10, 10, 10, 10}},
		{[]int{12, 12, 12, 12}, append([]int{0}, slices.Repeat([]int{12}, 15)...)},
	} {
		if x := costsOf(r.needs); !slices.Equal(x, r.costs) {
			t.Fatal(r, x)
		}
		if x := impl.RunwayCost(r.needs, len(r.costs)); x != -1 {
			t.Fatal("no set", r, x)
		}
	}
}

// Promise 58: of any two sets, of all needs.
func TestTwoSetsCostNoLessApart(t *testing.T) {
	for people := 1; people <= 4; people++ {
		for _, needs := range allNeeds(people) {
			costs := costsOf(needs)
			if want := costsByDefinition(needs); !slices.Equal(costs, want) {
				t.Fatal(needs, costs, want)
			}
			for set := range costs {
				for other := range set {
					union, common := bothOf(set, other, people)
					if costs[set]+costs[other] < costs[union]+costs[common] {
						t.Fatal(needs, set, other, costs)
					}
				}
			}
		}
	}
}

// One person costs the own need, a set as much as the dearest person in it, and all the greatest need.
func TestSetsOfOneAndOfAllCost(t *testing.T) {
	for people := 1; people <= 4; people++ {
		for _, needs := range fewNeeds(people) {
			for person, need := range needs {
				if x := impl.RunwayCost(needs, twoTo(person)); x != need {
					t.Fatal("one person", needs, person, x)
				}
			}
			if x := impl.RunwayCost(needs, twoTo(people)-1); x != slices.Max(needs) {
				t.Fatal("all", needs, x)
			}
			if x := impl.RunwayCost(needs, 0); x != 0 {
				t.Fatal("nobody", needs, x)
			}
		}
	}
}
