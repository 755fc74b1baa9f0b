package tests

import (
	"slices"
	"testing"

	"loop.example/shortestates/impl"
)

// sharesByUnits tells anew, from the sentence of the document, what each person pays, unit by unit.
func sharesByUnits(needs []int) []int {
	shares := make([]int, len(needs))
	for unit := 1; unit <= 12; unit++ {
		var needing []int
		for person, need := range needs {
			if need >= unit {
				needing = append(needing, person)
			}
		}
		for _, person := range needing {
			shares[person] += 48 / len(needing)
		}
	}
	return shares
}

// costsAsTheyCome tells anew what the runway costs more for each person, in parts, if people come in an order.
func costsAsTheyCome(needs, order []int) []int {
	costs := make([]int, len(needs))
	built := 0
	for _, person := range order {
		for built < needs[person] {
			costs[person] += 48
			built++
		}
	}
	return costs
}

// meansByDefinition tells anew, from the sentence of the document, the mean of what the runway costs more for each person, over some orders, and whether it is whole.
func meansByDefinition(needs []int, orders [][]int) ([]int, bool) {
	return meansOver(orders, func(order []int) []int { return costsAsTheyCome(needs, order) })
}

// greatestOf returns the first person with the greatest need.
func greatestOf(needs []int) int {
	return slices.Index(needs, slices.Max(needs))
}

// checkPieces checks promise 59: the shares can be paid, who needs more pays no less, and equal needs pay the same.
func checkPieces(t *testing.T, needs, shares []int) {
	t.Helper()
	if len(shares) != len(needs) || !impl.PaysOk(needs, shares) || !paysByDefinition(needs, shares) {
		t.Fatal("cannot be paid", needs, shares)
	}
	for person, need := range needs {
		for other, otherNeed := range needs {
			if need >= otherNeed && shares[person] < shares[other] {
				t.Fatal("pays less", needs, shares, person, other)
			}
			if need == otherNeed && shares[person] != shares[other] {
				t.Fatal("equal needs", needs, shares, person, other)
			}
		}
	}
}

// checkAllPaid checks promise 60: together the greatest need is paid, and with a further need of nothing, at any place, the others pay the same.
func checkAllPaid(t *testing.T, needs, shares []int) {
	t.Helper()
	people := len(needs)
	if cost := impl.RunwayCost(needs, twoTo(people)-1); cost != slices.Max(needs) || total(shares) != 48*cost {
		t.Fatal("all", needs, shares, cost)
	}
	for place := range people + 1 {
		further := slices.Insert(slices.Clone(needs), place, 0)
		var want []int
		if people < 4 {
			want = slices.Insert(slices.Clone(shares), place, 0)
		}
		if x := impl.RunwayShares(further); !slices.Equal(x, want) {
			t.Fatal("a further need of nothing", needs, shares, further, x)
		}
	}
}

// checkOneLonger checks promise 62: with the greatest need one more only the first one of the greatest pays more, by Parts.
func checkOneLonger(t *testing.T, needs, shares []int) {
	t.Helper()
	first := greatestOf(needs)
	longer := slices.Clone(needs)
	longer[first]++
	var want []int
	if needs[first] < 12 {
		want = slices.Clone(shares)
		want[first] += 48
	}
	if x := impl.RunwayShares(longer); impl.NeedsOk(longer) != (needs[first] < 12) || !slices.Equal(x, want) {
		t.Fatal("one longer", needs, shares, longer, x, want)
	}
}

// Promises 59, 60 and 62: of all needs.
func TestEachPieceIsPaidByThoseWhoNeedIt(t *testing.T) {
	for people := 1; people <= 4; people++ {
		orders := ordersOf(people)
		for _, needs := range allNeeds(people) {
			shares, means := impl.RunwayShares(needs), impl.RunwayOrders(needs)
			checkPieces(t, needs, shares)
			checkAllPaid(t, needs, shares)
			checkOneLonger(t, needs, shares)
			if want := sharesByUnits(needs); !slices.Equal(shares, want) {
				t.Fatal("shares", needs, shares, want)
			}
			if want, whole := meansByDefinition(needs, orders); !whole || !slices.Equal(means, want) || !slices.Equal(means, shares) {
				t.Fatal("means", needs, shares, means, want, whole)
			}
		}
	}
}

// With other places for the people each one pays the same.
func TestNamesChangeNoPayments(t *testing.T) {
	for people := 1; people <= 4; people++ {
		for _, needs := range fewNeeds(people) {
			shares := impl.RunwayShares(needs)
			for _, order := range ordersOf(people) {
				named := placedBy(needs, order)
				if x := impl.RunwayShares(named); len(shares) != people || !slices.Equal(x, placedBy(shares, order)) {
					t.Fatal("shares", needs, order, shares, x)
				}
				if x := impl.RunwayOrders(named); !slices.Equal(x, placedBy(shares, order)) {
					t.Fatal("orders", needs, order, shares, x)
				}
			}
		}
	}
}
