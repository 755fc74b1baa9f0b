package tests

import (
	"slices"
	"testing"

	"loop.example/shortestates/impl"
)

// bringsByDefinition tells anew, from the sentences of the document, what a person of a valid case brings to a set: -1 if the person is in it.
func bringsByDefinition(c impl.Case, person, set int) int {
	members, others := membersOf(set, len(c.Claims))
	if slices.Contains(members, person) {
		return -1
	}
	claimsOfOthers := togetherOf(c.Claims, others)
	without := max(0, c.Estate-claimsOfOthers)
	with := max(0, c.Estate-(claimsOfOthers-c.Claims[person]))
	return with - without
}

// Each row has what one person brings to the sets from 0 on, -1 for those that the person is in.
func TestBringsByHand(t *testing.T) {
	for _, r := range []struct {
		of     impl.Case
		brings [][]int
	}{
		{caseOf(9, 2, 4, 6), [][]int{
			{0, -1, 2, -1, 2, -1, 2, -1},
			{1, 3, -1, -1, 4, 4, -1, -1},
			{3, 5, 6, 6, -1, -1, -1, -1},
		}},
		{caseOf(5, 2, 4, 6), [][]int{
			{0, -1, 0, -1, 1, -1, 2, -1},
			{0, 0, -1, -1, 3, 4, -1, -1},
			{0, 1, 3, 5, -1, -1, -1, -1},
		}},
		{caseOf(0, 2, 4, 6), [][]int{
			{0, -1, 0, -1, 0, -1, 0, -1},
			{0, 0, -1, -1, 0, 0, -1, -1},
			{0, 0, 0, 0, -1, -1, -1, -1},
		}},
		{caseOf(12, 2, 4, 6), [][]int{
			{2, -1, 2, -1, 2, -1, 2, -1},
			{4, 4, -1, -1, 4, 4, -1, -1},
			{6, 6, 6, 6, -1, -1, -1, -1},
		}},
		{caseOf(12, 9, 0, 9), [][]int{
			{3, -1, 3, -1, 9, -1, 9, -1},
			{0, 0, -1, -1, 0, 0, -1, -1},
			{3, 9, 3, 9, -1, -1, -1, -1},
		}},
		{caseOf(10, 1, 2, 3, 8), [][]int{
			{0, -1, 0, -1, 0, -1, 1, -1, 1, -1, 1, -1, 1, -1, 1, -1},
			{0, 0, -1, -1, 1, 2, -1, -1, 2, 2, -1, -1, 2, 2, -1, -1},
			{0, 0, 1, 2, -1, -1, -1, -1, 3, 3, 3, 3, -1, -1, -1, -1},
			{4, 5, 6, 7, 7, 8, 8, 8, -1, -1, -1, -1, -1, -1, -1, -1},
		}},
		{caseOf(3, 2, 4), [][]int{{0, -1, 2, -1}, {1, 3, -1, -1}}},
		{caseOf(4, 3, 3), [][]int{{1, -1, 3, -1}, {1, 3, -1, -1}}},
		{caseOf(0, 0, 0), [][]int{{0, -1, 0, -1}, {0, 0, -1, -1}}},
		// One person alone.
		{caseOf(0, 0), [][]int{{0, -1}}},
		{caseOf(0, 12), [][]int{{0, -1}}},
		{caseOf(7, 12), [][]int{{7, -1}}},
		{caseOf(12, 12), [][]int{{12, -1}}},
	} {
		for person, row := range r.brings {
			for set, brings := range row {
				if x := impl.BringsOf(r.of, person, set); x != brings {
					t.Fatal(r.of, person, set, brings, x)
				}
			}
		}
	}
}

// checkBrings checks promise 40 of what a person brings to each set of others, and what is brought.
func checkBrings(t *testing.T, c impl.Case, person int) {
	t.Helper()
	brings := make([]int, twoTo(len(c.Claims)))
	for set := range brings {
		brings[set] = impl.BringsOf(c, person, set)
		if brings[set] != bringsByDefinition(c, person, set) {
			t.Fatal(c, person, set, brings[set])
		}
	}
	for set, brought := range brings {
		if brought == -1 {
			continue
		}
		if brought < 0 || brought > c.Claims[person] {
			t.Fatal("from 0 up to the claim", c, person, set, brought)
		}
		for drawn, others := range brings {
			union, _ := bothOf(set, drawn, len(c.Claims))
			if others != -1 && brings[union] < brought {
				t.Fatal("to more people", c, person, set, union, brings)
			}
		}
	}
}

// Promise 40: of each set of others, with any other such set.
func TestToMorePeopleOneBringsNoLess(t *testing.T) {
	for _, c := range validCases() {
		for person := range c.Claims {
			checkBrings(t, c, person)
		}
	}
}

// What each one brings to those before is all of the estate together, and just the awards if people arrive in the order from behind.
func TestWhatAllBringIsTheEstate(t *testing.T) {
	for _, c := range validCases() {
		for _, order := range ordersOf(len(c.Claims)) {
			brought, before := make([]int, len(order)), 0
			for _, person := range order {
				brought[person] = 48 * impl.BringsOf(c, person, before)
				before += twoTo(person)
			}
			if x := impl.OrderAwards(c, fromBehind(order)); total(brought) != 48*c.Estate || !slices.Equal(x, brought) {
				t.Fatal(c, order, brought, x)
			}
		}
	}
}
