package tests

import (
	"math"
	"slices"
	"testing"

	"loop.example/shortestates/impl"
)

func wantNoOrderAwards(t *testing.T, c impl.Case, order []int) {
	t.Helper()
	if x := impl.OrderAwards(c, order); x != nil {
		t.Fatal("in order", c, order, x)
	}
}

func wantNoBrings(t *testing.T, c impl.Case, person, set int) {
	t.Helper()
	if x := impl.BringsOf(c, person, set); x != -1 {
		t.Fatal("brings", c, person, set, x)
	}
}

// Orders, people and sets are as they would be for a case, too.
func TestInvalidCasesOfChapter7(t *testing.T) {
	for _, c := range invalidCases() {
		if x := impl.ArrivalAwards(c); x != nil {
			t.Fatal("arrivals", c, x)
		}
		if x := impl.GameShares(c); x != nil {
			t.Fatal("shares", c, x)
		}
		for _, order := range [][]int{nil, {0}, {0, 1, 2}, inOrder(len(c.Claims)), fromBehind(inOrder(len(c.Claims)))} {
			wantNoOrderAwards(t, c, order)
		}
		for _, person := range []int{0, 1, 2, 3, 4, -1, len(c.Claims) - 1, math.MaxInt, math.MinInt} {
			for _, set := range []int{0, 1, 2, 3, 4, 6, 8, 14, 15, 16, 30, -1, math.MaxInt, math.MinInt} {
				wantNoBrings(t, c, person, set)
			}
		}
	}
}

func TestInvalidOrdersOfArrival(t *testing.T) {
	for _, r := range invalidOrders() {
		for estate := 0; estate <= total(r.of.Claims); estate++ {
			for _, order := range r.rows {
				wantNoOrderAwards(t, caseOf(estate, r.of.Claims...), order)
			}
		}
	}
}

// setsOutside returns numbers that tell no set of so many people.
func setsOutside(people int) []int {
	sets := twoTo(people)
	return []int{
		-1, -2, -sets, 1 - sets, -1 << 32, -1<<32 + 1, math.MinInt, math.MinInt + 1,
		sets, sets + 1, 2*sets - 2, 2*sets - 1, 2 * sets, 64, 1 << 10, 1 << 32, 1<<32 + 1, 1 << 62, math.MaxInt - 1, math.MaxInt,
	}
}

// peopleOutside returns numbers that tell none of so many people.
func peopleOutside(people int) []int {
	return []int{
		-1, -2, -people, -4, -64, -1 << 32, math.MinInt, math.MinInt + 1,
		people, people + 1, 4, 5, 31, 32, 63, 64, 65, 128, 1 << 32, 1<<32 + 1, 1 << 62, math.MaxInt,
	}
}

func TestInvalidPeopleAndSets(t *testing.T) {
	for _, claims := range [][]int{{0}, {12}, {2, 4}, {2, 4, 6}, {0, 0, 0}, {1, 2, 3, 8}, {12, 12, 12, 12}} {
		for estate := 0; estate <= total(claims); estate++ {
			c := caseOf(estate, claims...)
			for person := range claims {
				for _, set := range setsOutside(len(claims)) {
					wantNoBrings(t, c, person, set)
				}
			}
			for _, person := range peopleOutside(len(claims)) {
				for set := range twoTo(len(claims)) {
					wantNoBrings(t, c, person, set)
				}
				for _, set := range setsOutside(len(claims)) {
					wantNoBrings(t, c, person, set)
				}
			}
		}
	}
}

// A person who is in the set brings nothing to it: it is not one of others.
func TestPeopleWithinTheSet(t *testing.T) {
	for _, c := range validCases() {
		for set := range twoTo(len(c.Claims)) {
			members, others := membersOf(set, len(c.Claims))
			for _, person := range members {
				wantNoBrings(t, c, person, set)
			}
			for _, person := range others {
				if x := impl.BringsOf(c, person, set); x < 0 {
					t.Fatal(c, person, set, x)
				}
			}
		}
	}
}

// Drawn numbers, most of them of no use, are given to all functions.
func TestNoArgumentPanicsInChapter7(t *testing.T) {
	defer mustPanicNot(t, "chapter 7")
	numbers := []int{math.MinInt, -1 << 32, -13, -1, 0, 0, 0, 1, 1, 2, 2, 3, 3, 4, 5, 12, 13, 48, 64, 1 << 32, 1 << 62, math.MaxInt}
	d := draws(42)
	for range 200000 {
		c := caseOf(numbers[d.below(len(numbers))], drawnRow(&d, numbers)...)
		people, ok := len(c.Claims), impl.CaseOk(c)
		var arrivals []int
		if ok {
			arrivals, _ = arrivalsByDefinition(c)
		}
		if x := impl.ArrivalAwards(c); !slices.Equal(x, arrivals) {
			t.Fatal(c, x, arrivals)
		}
		if x := impl.GameShares(c); !slices.Equal(x, arrivals) {
			t.Fatal(c, x, arrivals)
		}
		order := drawnRow(&d, numbers)
		if !ok || !slices.Equal(slices.Sorted(slices.Values(order)), inOrder(people)) {
			wantNoOrderAwards(t, c, order)
		} else if x := impl.OrderAwards(c, order); !slices.Equal(x, orderByUnits(c, order)) {
			t.Fatal(c, order, x)
		}
		person, set := numbers[d.below(len(numbers))], numbers[d.below(len(numbers))]
		if !ok || person < 0 || person >= people || set < 0 || set >= twoTo(people) {
			wantNoBrings(t, c, person, set)
		} else if x := impl.BringsOf(c, person, set); x != bringsByDefinition(c, person, set) {
			t.Fatal(c, person, set, x)
		}
	}
}
