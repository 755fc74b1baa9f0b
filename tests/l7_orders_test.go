package tests

import (
	"slices"
	"testing"

	"loop.example/shortestates/impl"
)

// orderByUnits tells anew what people get who arrive in an order, by giving the estate unit by unit: each unit goes to the first one who has not all of the claim.
func orderByUnits(c impl.Case, order []int) []int {
	awards := make([]int, len(c.Claims))
	for range c.Estate {
		first := slices.IndexFunc(order, func(person int) bool { return awards[person] < 48*c.Claims[person] })
		awards[order[first]] += 48
	}
	return awards
}

// fromBehind returns a row, of an order or of others, from the last one to the first one.
func fromBehind[E any](row []E) []E {
	behind := slices.Clone(row)
	slices.Reverse(behind)
	return behind
}

// inOrder returns the order from the first person to the last one.
func inOrder(people int) []int {
	order := make([]int, people)
	for i := range order {
		order[i] = i
	}
	return order
}

// orderCase has awards of a case, whose people arrive in an order, reckoned by hand.
type orderCase struct {
	of            impl.Case
	order, awards []int
}

func orderCases() []orderCase {
	return []orderCase{
		{caseOf(5, 2, 4, 6), []int{2, 0, 1}, []int{0, 0, 240}},
		{caseOf(5, 2, 4, 6), []int{1, 2, 0}, []int{0, 192, 48}},
		{caseOf(5, 2, 4, 6), []int{1, 0, 2}, []int{48, 192, 0}},
		{caseOf(5, 2, 4, 6), []int{0, 2, 1}, []int{96, 0, 144}},
		{caseOf(5, 2, 4, 6), []int{0, 1, 2}, []int{96, 144, 0}},
		{caseOf(5, 2, 4, 6), []int{2, 1, 0}, []int{0, 0, 240}},
		{caseOf(7, 2, 4, 6), []int{2, 0, 1}, []int{48, 0, 288}},
		{caseOf(9, 2, 4, 6), []int{2, 0, 1}, []int{96, 48, 288}},
		{caseOf(9, 2, 4, 6), []int{1, 2, 0}, []int{0, 192, 240}},
		{caseOf(6, 2, 4, 6), []int{2, 1, 0}, []int{0, 0, 288}},
		{caseOf(6, 2, 4, 6), []int{0, 1, 2}, []int{96, 192, 0}},
		{caseOf(0, 2, 4, 6), []int{1, 2, 0}, []int{0, 0, 0}},
		{caseOf(12, 2, 4, 6), []int{1, 2, 0}, []int{96, 192, 288}},
		{caseOf(10, 1, 2, 3, 8), []int{1, 3, 0, 2}, []int{0, 96, 0, 384}},
		{caseOf(10, 1, 2, 3, 8), []int{2, 0, 3, 1}, []int{48, 0, 144, 288}},
		{caseOf(10, 1, 2, 3, 8), []int{0, 1, 2, 3}, []int{48, 96, 144, 192}},
		{caseOf(10, 1, 2, 3, 8), []int{3, 2, 1, 0}, []int{0, 0, 96, 384}},
		{caseOf(0, 0), []int{0}, []int{0}},
		{caseOf(0, 12), []int{0}, []int{0}},
		{caseOf(7, 12), []int{0}, []int{336}},
		{caseOf(12, 12), []int{0}, []int{576}},
		{caseOf(3, 2, 4), []int{0, 1}, []int{96, 48}},
		{caseOf(3, 2, 4), []int{1, 0}, []int{0, 144}},
		{caseOf(5, 0, 9), []int{0, 1}, []int{0, 240}},
		{caseOf(5, 0, 9), []int{1, 0}, []int{0, 240}},
		{caseOf(3, 2, 2), []int{0, 1}, []int{96, 48}},
		{caseOf(3, 2, 2), []int{1, 0}, []int{48, 96}},
		{caseOf(0, 0, 0, 0, 0), []int{3, 1, 0, 2}, []int{0, 0, 0, 0}},
		{caseOf(30, 12, 12, 12, 12), []int{2, 3, 0, 1}, []int{288, 0, 576, 576}},
		{caseOf(1, 12, 12, 12, 12), []int{2, 3, 0, 1}, []int{0, 0, 48, 0}},
		{caseOf(48, 12, 12, 12, 12), []int{2, 3, 0, 1}, []int{576, 576, 576, 576}},
	}
}

func TestOrderAwardsByHand(t *testing.T) {
	for _, r := range orderCases() {
		if x := impl.OrderAwards(r.of, r.order); !slices.Equal(x, r.awards) {
			t.Fatal(r, x)
		}
	}
}

// checkOrderAwards checks promise 38 of a case, whose people arrive in an order, and their awards.
func checkOrderAwards(t *testing.T, c impl.Case, order []int) {
	t.Helper()
	awards := impl.OrderAwards(c, order)
	if !slices.Equal(awards, orderByUnits(c, order)) || !impl.AwardsOk(c, awards) {
		t.Fatal(c, order, awards)
	}
	if first := order[0]; awards[first] != min(48*c.Claims[first], 48*c.Estate) {
		t.Fatal("the first one", c, order, awards)
	}
	other, _ := impl.OtherCase(c)
	losses := impl.LossesOf(c, awards)
	if x := impl.OrderAwards(other, fromBehind(order)); len(x) != len(order) || !slices.Equal(x, losses) {
		t.Fatal("losses", c, order, losses, x)
	}
}

// Promise 38: of all orders, from the first person to the last one and from behind among them.
func TestWhoComesFirstLosesLeast(t *testing.T) {
	for _, c := range validCases() {
		for _, order := range ordersOf(len(c.Claims)) {
			checkOrderAwards(t, c, order)
		}
		checkOrderAwards(t, c, inOrder(len(c.Claims)))
		checkOrderAwards(t, c, fromBehind(inOrder(len(c.Claims))))
	}
}

// Of two people with equal claims the one who comes earlier has no less; and one unit more goes to one person alone.
func TestWhoComesEarlierHasNoLess(t *testing.T) {
	for _, c := range validCases() {
		more, owed := oneMore(c)
		for _, order := range ordersOf(len(c.Claims)) {
			awards := impl.OrderAwards(c, order)
			for place, person := range order {
				for _, later := range order[place:] {
					if c.Claims[person] == c.Claims[later] && awards[person] < awards[later] {
						t.Fatal(c, order, awards)
					}
				}
			}
			if !owed {
				continue
			}
			gained := less(impl.OrderAwards(more, order), awards)
			if slices.Min(gained) < 0 || slices.Max(gained) != 48 || total(gained) != 48 {
				t.Fatal("one unit more", c, order, awards, gained)
			}
		}
	}
}
