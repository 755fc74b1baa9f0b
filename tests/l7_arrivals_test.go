package tests

import (
	"slices"
	"testing"

	"loop.example/shortestates/impl"
)

// arrivalsByDefinition tells anew, from the sentence of the document, the mean of what people get over all orders, and whether it is whole.
func arrivalsByDefinition(c impl.Case) ([]int, bool) {
	return meansOver(ordersOf(len(c.Claims)), func(order []int) []int { return orderByUnits(c, order) })
}

// sharesByDefinition tells anew, from the sentence of the document, the shares of the game, and whether they are whole.
func sharesByDefinition(c impl.Case) ([]int, bool) {
	people := len(c.Claims)
	orders := []int{1, 1, 2, 6, 24}
	shares, whole := make([]int, people), true
	for person := range people {
		sum := 0
		for set := range twoTo(people) {
			if members, others := membersOf(set, people); slices.Contains(others, person) {
				sum += bringsByDefinition(c, person, set) * 48 * orders[len(members)] * orders[len(others)-1]
			}
		}
		whole = whole && sum%orders[people] == 0
		shares[person] = sum / orders[people]
	}
	return shares, whole
}

// arrivalCase has what ArrivalAwards and GameShares return for a case, reckoned by hand.
type arrivalCase struct {
	of     impl.Case
	awards []int
}

func arrivalCases() []arrivalCase {
	return []arrivalCase{
		{caseOf(5, 2, 4, 6), []int{40, 88, 112}},
		{caseOf(5, 6, 2, 4), []int{112, 40, 88}},
		{caseOf(7, 2, 4, 6), []int{56, 104, 176}},
		{caseOf(3, 2, 4, 6), []int{32, 56, 56}},
		{caseOf(9, 2, 4, 6), []int{64, 136, 232}},
		{caseOf(6, 2, 4, 6), []int{48, 96, 144}},
		{caseOf(1, 2, 4, 6), []int{16, 16, 16}},
		{caseOf(11, 2, 4, 6), []int{80, 176, 272}},
		{caseOf(0, 2, 4, 6), []int{0, 0, 0}},
		{caseOf(12, 2, 4, 6), []int{96, 192, 288}},
		{caseOf(7, 12, 1, 8), []int{160, 16, 160}},
		{caseOf(4, 1, 3, 3), []int{32, 80, 80}},
		{caseOf(10, 1, 2, 3, 8), []int{28, 60, 84, 308}},
		{caseOf(10, 8, 3, 2, 1), []int{308, 84, 60, 28}},
		{caseOf(4, 1, 2, 3, 8), []int{20, 36, 60, 76}},
		// Two people.
		{caseOf(3, 2, 4), []int{48, 96}},
		{caseOf(3, 4, 2), []int{96, 48}},
		{caseOf(3, 3, 4), []int{72, 72}},
		{caseOf(4, 3, 4), []int{72, 120}},
		{caseOf(7, 1, 12), []int{24, 312}},
		{caseOf(1, 1, 1), []int{24, 24}},
		// Equal claims, and claims of nothing.
		{caseOf(1, 1, 1, 1), []int{16, 16, 16}},
		{caseOf(2, 1, 1, 1), []int{32, 32, 32}},
		{caseOf(5, 0, 9), []int{0, 240}},
		{caseOf(5, 9, 0, 9), []int{120, 0, 120}},
		{caseOf(10, 9, 0, 9), []int{240, 0, 240}},
		{caseOf(9, 0, 9, 0, 9), []int{0, 216, 0, 216}},
		{caseOf(0, 0, 0), []int{0, 0}},
		{caseOf(0, 0, 0, 0, 0), []int{0, 0, 0, 0}},
		{caseOf(1, 12, 12, 12, 12), []int{12, 12, 12, 12}},
		{caseOf(30, 12, 12, 12, 12), []int{360, 360, 360, 360}},
		{caseOf(48, 12, 12, 12, 12), []int{576, 576, 576, 576}},
		// One person alone.
		{caseOf(0, 0), []int{0}},
		{caseOf(0, 12), []int{0}},
		{caseOf(7, 12), []int{336}},
		{caseOf(12, 12), []int{576}},
	}
}

func TestArrivalsByHand(t *testing.T) {
	for _, r := range arrivalCases() {
		if x := impl.ArrivalAwards(r.of); !slices.Equal(x, r.awards) {
			t.Fatal("arrivals", r, x)
		}
		if x := impl.GameShares(r.of); !slices.Equal(x, r.awards) {
			t.Fatal("shares", r, x)
		}
	}
}

// Promise 39.
func TestAllOrdersAreTheSharesOfTheGame(t *testing.T) {
	for _, c := range validCases() {
		arrivals, shares := impl.ArrivalAwards(c), impl.GameShares(c)
		if want, whole := arrivalsByDefinition(c); !whole || !slices.Equal(arrivals, want) {
			t.Fatal("arrivals", c, arrivals, want, whole)
		}
		if want, whole := sharesByDefinition(c); !whole || !slices.Equal(shares, want) {
			t.Fatal("shares", c, shares, want, whole)
		}
		if !impl.AwardsOk(c, arrivals) || !slices.Equal(arrivals, shares) || !impl.KeepsOrder(c, arrivals) {
			t.Fatal(c, arrivals, shares, impl.KeepsOrder(c, arrivals))
		}
		other, _ := impl.OtherCase(c)
		if x := impl.ArrivalAwards(other); !slices.Equal(impl.LossesOf(other, x), arrivals) {
			t.Fatal("losses of the other case", c, arrivals, x)
		}
	}
}

// Promise 41.
func TestEqualClaimsHaveEqualShares(t *testing.T) {
	for _, c := range validCases() {
		shares := impl.GameShares(c)
		if len(shares) != len(c.Claims) || total(shares) != 48*c.Estate || !alikeForEqual(c, shares) {
			t.Fatal(c, shares)
		}
		for person, claim := range c.Claims {
			if claim == 0 && shares[person] != 0 {
				t.Fatal("nothing", c, person, shares)
			}
		}
	}
}

// Promise 42.
func TestCutClaimsAndRightsChangeNothingOfArrivals(t *testing.T) {
	for _, c := range validCases() {
		awards := impl.ArrivalAwards(c)
		cut, _ := impl.CutCase(c)
		if x := impl.ArrivalAwards(cut); len(awards) != len(c.Claims) || !slices.Equal(x, awards) {
			t.Fatal(c, cut, awards, x)
		}
		left, _ := impl.RestCase(c)
		if x := impl.ArrivalAwards(left); !slices.Equal(x, less(awards, inParts(impl.RightsOf(c)))) {
			t.Fatal(c, left, awards, x)
		}
	}
}

// placedBy returns a row, of what there is for each person, with each person at the place that an order tells.
func placedBy[E any](row []E, order []int) []E {
	placed := make([]E, len(row))
	for person, place := range order {
		placed[place] = row[person]
	}
	return placed
}

// Promise 43: of all orders.
func TestNamesChangeNoArrivals(t *testing.T) {
	for _, c := range validCases() {
		arrivals, shares, halves := impl.ArrivalAwards(c), impl.GameShares(c), impl.HalfAwards(c)
		if len(arrivals) != len(c.Claims) || len(shares) != len(c.Claims) || len(halves) != len(c.Claims) {
			t.Fatal(c, arrivals, shares, halves)
		}
		for _, order := range ordersOf(len(c.Claims)) {
			named, _ := impl.NamedCase(c, order)
			if x := impl.ArrivalAwards(named); !slices.Equal(x, placedBy(arrivals, order)) {
				t.Fatal("arrivals", c, order, arrivals, x)
			}
			if x := impl.GameShares(named); !slices.Equal(x, placedBy(shares, order)) {
				t.Fatal("shares", c, order, shares, x)
			}
			if x := impl.HalfAwards(named); !slices.Equal(x, placedBy(halves, order)) {
				t.Fatal("halves", c, order, halves, x)
			}
		}
	}
}

// Promise 45.
func TestOfTwoPeopleHalvesAreWhatBothLeaveAndShare(t *testing.T) {
	pairs := 0
	for _, c := range validCases() {
		if len(c.Claims) != 2 {
			continue
		}
		pairs++
		halves, arrivals := impl.HalfAwards(c), impl.ArrivalAwards(c)
		first, second, ok := impl.PairTwice(48*c.Claims[0], 48*c.Claims[1], 48*c.Estate)
		if !ok || len(halves) != 2 || 2*halves[0] != first || 2*halves[1] != second {
			t.Fatal(c, halves, first, second, ok)
		}
		if wantFirst, wantSecond := pairByParts(48*c.Claims[0], 48*c.Claims[1], 48*c.Estate); first != wantFirst || second != wantSecond {
			t.Fatal("by parts", c, first, second, wantFirst, wantSecond)
		}
		if !slices.Equal(arrivals, halves) || !slices.Equal(impl.GameShares(c), halves) {
			t.Fatal("arrivals", c, halves, arrivals)
		}
	}
	// Of two claims in 0..12 there are 169 rows, each with an estate from 0 up to both, 13 of them on average.
	if pairs != 2197 {
		t.Fatal("not all cases of two people", pairs)
	}
}
