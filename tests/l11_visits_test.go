package tests

import (
	"slices"
	"testing"

	"loop.example/shortestates/impl"
)

// passCase has what PassWorth returns for each set of so many houses, and what PassShares and PassOrders return at a price, reckoned by hand.
type passCase struct {
	houses         int
	visits         []int
	price          int
	worths, shares []int
}

func passCases() []passCase {
	return append(edgesOfPasses(), []passCase{
		{3, []int{3, 1, 0, 7}, 2, []int{0, 1, 0, 2, 0, 1, 0, 3}, []int{176, 80, 32}},
		{2, []int{1, 2, 3}, 1, []int{0, 1, 1, 3}, []int{72, 72}},
		{2, []int{2, 2, 3}, 3, []int{0, 0, 2, 3}, []int{72, 360}},
		{2, []int{3}, 1, []int{0, 0, 0, 1}, []int{24, 24}},
		{3, []int{5}, 1, []int{0, 0, 0, 0, 0, 1, 0, 1}, []int{24, 0, 24}},
		{3, []int{6, 4, 4}, 2, []int{0, 0, 0, 0, 2, 2, 3, 3}, []int{0, 48, 240}},
		{3, []int{1, 2, 4}, 12, []int{0, 1, 1, 2, 1, 2, 2, 3}, []int{576, 576, 576}},
		{3, []int{3, 5, 6, 7, 7, 1}, 12, []int{0, 1, 0, 2, 0, 2, 1, 6}, []int{1536, 960, 960}},
		{4, []int{8, 4, 2, 1}, 1, []int{0, 1, 1, 2, 1, 2, 2, 3, 1, 2, 2, 3, 2, 3, 3, 4}, []int{48, 48, 48, 48}},
		{4, []int{1, 2, 4, 8, 15, 3}, 1, []int{0, 1, 1, 3, 1, 2, 2, 4, 1, 2, 2, 4, 2, 3, 3, 6}, []int{84, 84, 60, 60}},
		{4, []int{7, 9, 8, 0, 14}, 3, []int{0, 0, 0, 0, 0, 0, 0, 1, 1, 2, 1, 2, 1, 2, 2, 4}, []int{120, 96, 96, 264}},
		{4, []int{5, 10}, 4, []int{0, 0, 0, 0, 0, 1, 0, 1, 0, 0, 1, 1, 0, 1, 1, 2}, []int{96, 96, 96, 96}},
		{4, []int{11, 13}, 5, []int{0, 0, 0, 0, 0, 0, 0, 0, 0, 0, 0, 1, 0, 1, 0, 2}, []int{160, 80, 80, 160}},
	}...)
}

func edgesOfPasses() []passCase {
	return []passCase{
		// No passes.
		{1, nil, 12, []int{0, 0}, []int{0}},
		{2, []int{}, 1, []int{0, 0, 0, 0}, []int{0, 0}},
		{4, nil, 12, make([]int, 16), []int{0, 0, 0, 0}},
		// One house alone, and MaxPasses passes.
		{1, []int{1}, 1, []int{0, 1}, []int{48}},
		{1, []int{0}, 12, []int{0, 0}, []int{0}},
		{1, []int{1, 0, 1}, 5, []int{0, 2}, []int{480}},
		{1, []int{1, 1, 1, 1, 1, 1}, 12, []int{0, 6}, []int{3456}},
		// Passes without visits, by one and by all.
		{2, []int{3, 0}, 11, []int{0, 0, 0, 1}, []int{264, 264}},
		{2, []int{0, 3}, 11, []int{0, 0, 0, 1}, []int{264, 264}},
		{3, []int{0}, 6, make([]int, 8), []int{0, 0, 0}},
		{4, []int{0, 0, 0, 0, 0, 0}, 12, make([]int, 16), []int{0, 0, 0, 0}},
		// Houses without visitors.
		{2, []int{1}, 7, []int{0, 1, 0, 1}, []int{336, 0}},
		{2, []int{2}, 7, []int{0, 0, 1, 1}, []int{0, 336}},
		{3, []int{2, 0, 2}, 1, []int{0, 0, 2, 2, 0, 0, 2, 2}, []int{0, 96, 0}},
		{4, []int{8}, 1, []int{0, 0, 0, 0, 0, 0, 0, 0, 1, 1, 1, 1, 1, 1, 1, 1}, []int{0, 0, 0, 48}},
		// All houses were visited.
		{3, []int{7}, 1, []int{0, 0, 0, 0, 0, 0, 0, 1}, []int{16, 16, 16}},
		{4, []int{15}, 1, zerosAnd(15, 1), []int{12, 12, 12, 12}},
		{4, []int{15, 15, 15, 15, 15, 15}, 12, zerosAnd(15, 6), []int{864, 864, 864, 864}},
		// Houses visited by the same passes.
		{4, []int{6, 6}, 5, []int{0, 0, 0, 0, 0, 0, 2, 2, 0, 0, 0, 0, 0, 0, 2, 2}, []int{0, 240, 240, 0}},
		// A price of nothing.
		{1, []int{1}, 0, []int{0, 1}, []int{0}},
		{4, []int{15, 3, 8}, 0, []int{0, 0, 0, 1, 0, 0, 0, 1, 1, 1, 1, 2, 1, 1, 1, 3}, []int{0, 0, 0, 0}},
	}
}

// worthsOf asks what each set of houses is worth.
func worthsOf(houses int, visits []int) []int {
	var worths []int
	for set := range twoTo(houses) {
		worths = append(worths, impl.PassWorth(houses, visits, set))
	}
	return worths
}

func TestPassesByHand(t *testing.T) {
	for _, r := range passCases() {
		if !impl.VisitsOk(r.houses, r.visits) {
			t.Fatal("no visits", r)
		}
		if x := worthsOf(r.houses, r.visits); !slices.Equal(x, r.worths) {
			t.Fatal("worths", r, x)
		}
		if x := impl.PassWorth(r.houses, r.visits, len(r.worths)); x != -1 {
			t.Fatal("no set", r, x)
		}
		if x := impl.PassShares(r.houses, r.visits, r.price); !slices.Equal(x, r.shares) {
			t.Fatal("shares", r, x)
		}
		if x := impl.PassOrders(r.houses, r.visits, r.price); !slices.Equal(x, r.shares) {
			t.Fatal("orders", r, x)
		}
	}
}

func TestConstantOfPasses(t *testing.T) {
	if impl.MaxPasses != 6 {
		t.Fatal(impl.MaxPasses)
	}
}

// risingVisits returns all visits of so many houses with up to MaxPasses passes, those with the least sets first.
func risingVisits(houses int) [][]int {
	all, longest := [][]int{nil}, [][]int{nil}
	for range 6 {
		var longer [][]int
		for _, visits := range longest {
			least := 0
			if len(visits) > 0 {
				least = slices.Max(visits)
			}
			for set := least; set < twoTo(houses); set++ {
				longer = append(longer, append(slices.Clone(visits), set))
			}
		}
		all, longest = append(all, longer...), longer
	}
	return all
}

// drawnPlaces returns a row with its numbers at drawn places.
func drawnPlaces(d *draws, row []int) []int {
	placed := []int{}
	for _, number := range row {
		placed = slices.Insert(placed, d.below(len(placed)+1), number)
	}
	return placed
}

// fewVisits returns visits of so many houses with up to three passes, in any order, by all sets of up to three houses, and by some of four.
func fewVisits(houses int) [][]int {
	sets := inOrder(twoTo(houses))
	if houses == 4 {
		sets = []int{0, 1, 6, 8, 11, 15}
	}
	var all [][]int
	for passes := range 4 {
		all = append(all, claimRows(passes, sets)...)
	}
	return all
}

// Promise 63.
func TestNoPassesAreVisits(t *testing.T) {
	for houses := -2; houses <= 8; houses++ {
		ok := houses >= 1 && houses <= 4
		if impl.VisitsOk(houses, nil) != ok || impl.VisitsOk(houses, []int{}) != ok {
			t.Fatal(houses)
		}
	}
}

// Promise 63: of all visits, in drawn orders of the passes. One more pass are visits if there is room for it.
func TestVisitsAreSomeWithoutTheLastPass(t *testing.T) {
	d := draws(63)
	for houses := 1; houses <= 4; houses++ {
		for _, row := range risingVisits(houses) {
			visits := drawnPlaces(&d, row)
			for passes := range len(visits) + 1 {
				if !impl.VisitsOk(houses, visits[:passes]) {
					t.Fatal("no visits", houses, visits[:passes])
				}
			}
			further := append(visits, d.below(twoTo(houses)))
			if x := impl.VisitsOk(houses, further); x != (len(row) < 6) {
				t.Fatal("a further pass", houses, further, x)
			}
		}
	}
}

// Sets are asked by all numbers of houses, whether they are there or not.
func TestVisitsAreSetsOfHouses(t *testing.T) {
	for houses := -3; houses <= 9; houses++ {
		for set := -40; set <= 70; set++ {
			ok := houses >= 1 && houses <= 4 && set >= 0 && set < twoTo(houses)
			for _, visits := range [][]int{{set}, {0, set}, {set, 0}, {1, 0, 1, 0, 1, set}, {set, 1, 1, 1, 1, 1}} {
				if x := impl.VisitsOk(houses, visits); x != ok {
					t.Fatal(houses, visits, x)
				}
			}
		}
	}
}
