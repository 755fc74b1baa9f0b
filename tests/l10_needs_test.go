package tests

import (
	"slices"
	"testing"

	"loop.example/shortestates/impl"
)

// needCase has what RunwayShares and RunwayOrders return for needs, reckoned by hand.
type needCase struct {
	needs, shares []int
}

func needCases() []needCase {
	return append(edgesOfNeeds(), []needCase{
		{[]int{3, 6, 6}, []int{48, 120, 120}},
		{[]int{2, 5}, []int{48, 192}},
		{[]int{5, 2}, []int{192, 48}},
		{[]int{1, 12}, []int{24, 552}},
		{[]int{1, 2, 3}, []int{16, 40, 88}},
		{[]int{1, 2, 3, 8}, []int{12, 28, 52, 292}},
		{[]int{8, 3, 2, 1}, []int{292, 52, 28, 12}},
		{[]int{3, 1, 8, 2}, []int{52, 12, 292, 28}},
		{[]int{2, 7, 7, 12}, []int{24, 104, 104, 344}},
		{[]int{12, 7, 2, 7}, []int{344, 104, 24, 104}},
		{[]int{0, 4, 0, 10}, []int{0, 96, 0, 384}},
		{[]int{11, 12, 12, 12}, []int{132, 148, 148, 148}},
	}...)
}

func edgesOfNeeds() []needCase {
	return []needCase{
		// One person alone.
		{[]int{0}, []int{0}},
		{[]int{1}, []int{48}},
		{[]int{7}, []int{336}},
		{[]int{12}, []int{576}},
		// Needs of nothing, by one and by all.
		{[]int{0, 7}, []int{0, 336}},
		{[]int{7, 0}, []int{336, 0}},
		{[]int{5, 0, 0}, []int{240, 0, 0}},
		{[]int{0, 5, 0}, []int{0, 240, 0}},
		{[]int{0, 5, 5}, []int{0, 120, 120}},
		{[]int{6, 6, 0, 6}, []int{96, 96, 0, 96}},
		{[]int{12, 0, 0, 0}, []int{576, 0, 0, 0}},
		{[]int{0, 0}, []int{0, 0}},
		{[]int{0, 0, 0}, []int{0, 0, 0}},
		{[]int{0, 0, 0, 0}, []int{0, 0, 0, 0}},
		// Equal needs, of all.
		{[]int{1, 1}, []int{24, 24}},
		{[]int{4, 4}, []int{96, 96}},
		{[]int{1, 1, 1}, []int{16, 16, 16}},
		{[]int{1, 1, 1, 1}, []int{12, 12, 12, 12}},
		{[]int{12, 12, 12, 12}, []int{144, 144, 144, 144}},
		// Equal needs, of the greatest and of the least, at each place.
		{[]int{4, 9, 9}, []int{64, 184, 184}},
		{[]int{9, 4, 9}, []int{184, 64, 184}},
		{[]int{9, 9, 4}, []int{184, 184, 64}},
		{[]int{9, 4, 4}, []int{304, 64, 64}},
		{[]int{4, 9, 4}, []int{64, 304, 64}},
		{[]int{4, 4, 9}, []int{64, 64, 304}},
		{[]int{2, 2, 2, 7}, []int{24, 24, 24, 264}},
		{[]int{7, 2, 2, 2}, []int{264, 24, 24, 24}},
		{[]int{3, 3, 8, 8}, []int{36, 36, 156, 156}},
		{[]int{8, 3, 8, 3}, []int{156, 36, 156, 36}},
		{[]int{12, 12, 12, 0}, []int{192, 192, 192, 0}},
	}
}

// allNeeds returns all needs of so many people.
func allNeeds(people int) [][]int {
	return claimRows(people, inOrder(13))
}

// fewNeeds returns needs of so many people out of a few amounts, edges among them.
func fewNeeds(people int) [][]int {
	return claimRows(people, []int{0, 1, 4, 9, 12})
}

func TestNeedsByHand(t *testing.T) {
	for _, r := range needCases() {
		if !impl.NeedsOk(r.needs) {
			t.Fatal("no needs", r)
		}
		if x := impl.RunwayShares(r.needs); !slices.Equal(x, r.shares) {
			t.Fatal("shares", r, x)
		}
		if x := impl.RunwayOrders(r.needs); !slices.Equal(x, r.shares) {
			t.Fatal("orders", r, x)
		}
	}
}

// Promise 57: of all needs, and in any order.
func TestANeedOfNothingIsOne(t *testing.T) {
	for people := range 5 {
		if x := impl.NeedsOk(make([]int, people)); x != (people > 0) {
			t.Fatal(people, x)
		}
	}
	for people := 1; people <= 4; people++ {
		for _, needs := range allNeeds(people) {
			if !impl.NeedsOk(needs) || !impl.NeedsOk(fromBehind(needs)) {
				t.Fatal("no needs", needs)
			}
		}
		for _, needs := range fewNeeds(people) {
			for _, order := range ordersOf(people) {
				if !impl.NeedsOk(placedBy(needs, order)) {
					t.Fatal("no needs", needs, order)
				}
			}
		}
	}
}
