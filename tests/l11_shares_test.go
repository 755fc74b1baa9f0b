package tests

import (
	"slices"
	"testing"

	"loop.example/shortestates/impl"
)

// sharesByPasses tells anew, from the sentence of the document, what each house gets, pass by pass.
func sharesByPasses(houses int, visits []int, price int) []int {
	shares := make([]int, houses)
	for _, visited := range visitedOf(houses, visits) {
		for _, house := range visited {
			shares[house] += 48 / len(visited) * price
		}
	}
	return shares
}

// broughtInOrder tells anew what each house brings, in parts, if houses join in an order: of each pass with visits the last one of its houses that joins brings all of the price.
func broughtInOrder(visited [][]int, order []int, price int) []int {
	brought := make([]int, len(order))
	for _, own := range visited {
		last := -1
		for _, house := range order {
			if slices.Contains(own, house) {
				last = house
			}
		}
		if last >= 0 {
			brought[last] += 48 * price
		}
	}
	return brought
}

// meansOfPasses tells anew, from the sentence of the document, the mean of what each house brings over some orders, and whether it is whole.
func meansOfPasses(houses int, visits []int, price int, orders [][]int) ([]int, bool) {
	visited := visitedOf(houses, visits)
	return meansOver(orders, func(order []int) []int { return broughtInOrder(visited, order, price) })
}

// checkAllShared checks promise 64: together it is the price of all passes with visits, houses that were visited with the same passes have the same, and it is the mean over all orders.
func checkAllShared(t *testing.T, houses int, visits []int, price int, shares []int) {
	t.Helper()
	if len(shares) != houses || total(shares) != 48*price*impl.PassWorth(houses, visits, twoTo(houses)-1) {
		t.Fatal("all", houses, visits, price, shares)
	}
	visited := visitedOf(houses, visits)
	for house := range houses {
		for other := range house {
			same := !slices.ContainsFunc(visited, func(own []int) bool {
				return slices.Contains(own, house) != slices.Contains(own, other)
			})
			if same && shares[house] != shares[other] {
				t.Fatal("the same passes", houses, visits, price, shares, house, other)
			}
		}
	}
	if x := impl.PassOrders(houses, visits, price); !slices.Equal(x, shares) {
		t.Fatal("all orders", houses, visits, price, shares, x)
	}
}

// checkSums checks promise 66: it is the sum of what each pass alone brings, and no set of houses has less than its passes bring.
func checkSums(t *testing.T, houses int, visits []int, price int, shares []int) {
	t.Helper()
	sums := make([]int, houses)
	for _, set := range visits {
		for house, share := range impl.PassShares(houses, []int{set}, price) {
			sums[house] += share
		}
	}
	if !slices.Equal(sums, shares) {
		t.Fatal("each pass alone", houses, visits, price, shares, sums)
	}
	for set := range twoTo(houses) {
		members, _ := membersOf(set, houses)
		if togetherOf(shares, members) < 48*price*impl.PassWorth(houses, visits, set) {
			t.Fatal("less than its passes bring", houses, visits, price, shares, set)
		}
	}
}

// checkTwice checks promise 67: at twice the price each house has twice as much, and a pass without visits, at a drawn place, changes nothing.
func checkTwice(t *testing.T, d *draws, houses int, visits []int, price int, shares []int) {
	t.Helper()
	var want []int
	if 2*price <= 12 {
		want = multiplied(shares, 2)
	}
	if x := impl.PassShares(houses, visits, 2*price); !slices.Equal(x, want) {
		t.Fatal("twice the price", houses, visits, price, shares, x)
	}
	further, want := slices.Insert(slices.Clone(visits), d.below(len(visits)+1), 0), nil
	if len(visits) < 6 {
		want = shares
	}
	if x := impl.PassShares(houses, further, price); impl.VisitsOk(houses, further) != (len(visits) < 6) || !slices.Equal(x, want) {
		t.Fatal("a pass without visits", houses, further, price, shares, x)
	}
}

// checkPasses checks promises 64, 66 and 67 of visits at a price.
func checkPasses(t *testing.T, d *draws, houses int, visits []int, price int) {
	t.Helper()
	shares := impl.PassShares(houses, visits, price)
	if want := sharesByPasses(houses, visits, price); !slices.Equal(shares, want) {
		t.Fatal("shares", houses, visits, price, shares, want)
	}
	if want, whole := meansOfPasses(houses, visits, price, ordersOf(houses)); !whole || !slices.Equal(shares, want) {
		t.Fatal("means", houses, visits, price, shares, want, whole)
	}
	checkAllShared(t, houses, visits, price, shares)
	checkSums(t, houses, visits, price, shares)
	checkTwice(t, d, houses, visits, price, shares)
}

// Promises 64, 66 and 67: of all visits, in drawn orders of the passes, at drawn prices.
func TestAllThatIsPaidForVisitsIsShared(t *testing.T) {
	d := draws(64)
	for houses := 1; houses <= 4; houses++ {
		for _, row := range risingVisits(houses) {
			checkPasses(t, &d, houses, drawnPlaces(&d, row), d.below(13))
		}
	}
}

// Promises 64, 66 and 67: at all prices.
func TestPassesAtEachPrice(t *testing.T) {
	d := draws(66)
	for houses := 1; houses <= 4; houses++ {
		for _, visits := range fewVisits(houses) {
			for price := range 13 {
				checkPasses(t, &d, houses, visits, price)
			}
		}
	}
	for _, r := range passCases() {
		for price := range 13 {
			checkPasses(t, &d, r.houses, r.visits, price)
		}
	}
}

// Promise 66: if each pass is of one house, or of none, a house has just what its passes bring.
func TestPassesOfOneHouse(t *testing.T) {
	for houses := 1; houses <= 4; houses++ {
		alone := []int{0, 1, 2, 4, 8}[:houses+1]
		for passes := range 7 {
			for _, visits := range claimRows(passes, alone) {
				shares := impl.PassShares(houses, visits, 7)
				if len(shares) != houses {
					t.Fatal(houses, visits, shares)
				}
				for house, share := range shares {
					if share != 48*7*impl.PassWorth(houses, visits, twoTo(house)) {
						t.Fatal(houses, visits, house, shares)
					}
				}
			}
		}
	}
}

// With the passes at other places each house has the same.
func TestPassesInAnyOrder(t *testing.T) {
	for _, r := range passCases() {
		for _, order := range ordersOf(len(r.visits)) {
			visits := placedBy(r.visits, order)
			if x := worthsOf(r.houses, visits); !slices.Equal(x, r.worths) {
				t.Fatal("worths", r, visits, x)
			}
			if x := impl.PassShares(r.houses, visits, r.price); !slices.Equal(x, r.shares) {
				t.Fatal("shares", r, visits, x)
			}
		}
	}
}

// With other places for the houses each one has the same.
func TestNamesChangeNoShares(t *testing.T) {
	for _, r := range passCases() {
		for _, order := range ordersOf(r.houses) {
			var visits []int
			for _, visited := range visitedOf(r.houses, r.visits) {
				set := 0
				for _, house := range visited {
					set += twoTo(order[house])
				}
				visits = append(visits, set)
			}
			want := placedBy(r.shares, order)
			if x := impl.PassShares(r.houses, visits, r.price); !slices.Equal(x, want) {
				t.Fatal("shares", r, order, visits, x)
			}
			if x := impl.PassOrders(r.houses, visits, r.price); !slices.Equal(x, want) {
				t.Fatal("orders", r, order, visits, x)
			}
		}
	}
}
