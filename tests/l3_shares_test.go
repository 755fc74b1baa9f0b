package tests

import (
	"slices"
	"testing"

	"loop.example/shortestates/impl"
)

// wholeByDefinition tells anew what is awarded if numbers, divided by one number, are made whole: each unit that is left is given to the first one of the greatest rests of those who have got none of these units.
func wholeByDefinition(row []int, by, estate int) []int {
	units, rests := make([]int, len(row)), make([]int, len(row))
	for i, number := range row {
		units[i], rests[i] = number/by, number%by
	}
	for left := estate - total(units); left > 0; left-- {
		first := slices.Index(rests, slices.Max(rests))
		units[first]++
		rests[first] = -1
	}
	return units
}

// shareCase has what ShareRow and WholeShares return for a case, reckoned by hand.
type shareCase struct {
	of     impl.Case
	shares []int
	whole  []int
}

func shareCases() []shareCase {
	return []shareCase{
		{caseOf(7, 2, 4, 6), []int{14, 28, 42}, []int{1, 2, 4}},
		{caseOf(9, 2, 4, 6), []int{18, 36, 54}, []int{2, 3, 4}},
		{caseOf(0, 2, 4, 6), []int{0, 0, 0}, []int{0, 0, 0}},
		{caseOf(12, 2, 4, 6), []int{24, 48, 72}, []int{2, 4, 6}},
		{caseOf(6, 2, 4, 6), []int{12, 24, 36}, []int{1, 2, 3}},
		{caseOf(0, 0), []int{0}, []int{0}},
		{caseOf(0, 0, 0), []int{0, 0}, []int{0, 0}},
		{caseOf(0, 0, 0, 0, 0), []int{0, 0, 0, 0}, []int{0, 0, 0, 0}},
		{caseOf(0, 12), []int{0}, []int{0}},
		{caseOf(7, 12), []int{84}, []int{7}},
		{caseOf(12, 12), []int{144}, []int{12}},
		{caseOf(1, 5, 5), []int{5, 5}, []int{1, 0}},
		{caseOf(2, 5, 5, 5), []int{10, 10, 10}, []int{1, 1, 0}},
		{caseOf(7, 0, 5, 0, 5), []int{0, 35, 0, 35}, []int{0, 4, 0, 3}},
		{caseOf(5, 1, 2, 12, 3), []int{5, 10, 60, 15}, []int{0, 1, 3, 1}},
		{caseOf(3, 1, 3, 3, 1), []int{3, 9, 9, 3}, []int{1, 1, 1, 0}},
		{caseOf(2, 1, 7), []int{2, 14}, []int{0, 2}},
		{caseOf(1, 12, 12, 12, 12), []int{12, 12, 12, 12}, []int{1, 0, 0, 0}},
		{caseOf(47, 12, 12, 12, 12), []int{564, 564, 564, 564}, []int{12, 12, 12, 11}},
		{caseOf(48, 12, 12, 12, 12), []int{576, 576, 576, 576}, []int{12, 12, 12, 12}},
	}
}

func TestSharesByHand(t *testing.T) {
	for _, r := range shareCases() {
		if x := impl.ShareRow(r.of); !slices.Equal(x, r.shares) {
			t.Fatal("shares", r.of, x)
		}
		if x := impl.WholeShares(r.of); !slices.Equal(x, r.whole) {
			t.Fatal("whole shares", r.of, x)
		}
	}
}

// Promise 19.
func TestSharesOfBothCasesAreTheClaims(t *testing.T) {
	for _, c := range validCases() {
		other, _ := impl.OtherCase(c)
		shares, lacking := impl.ShareRow(c), impl.ShareRow(other)
		if len(shares) != len(c.Claims) || len(lacking) != len(c.Claims) {
			t.Fatal(c, shares, lacking)
		}
		for i, claim := range c.Claims {
			if shares[i] != claim*c.Estate || shares[i]+lacking[i] != claim*impl.OwedOf(c) {
				t.Fatal(c, shares, lacking)
			}
		}
		if total(shares) != c.Estate*impl.OwedOf(c) {
			t.Fatal(c, shares)
		}
	}
}

// Promise 22.
func TestWholeSharesAreAUnitAwayAtMost(t *testing.T) {
	for _, c := range validCases() {
		shares, whole, owed := impl.ShareRow(c), impl.WholeShares(c), max(1, impl.OwedOf(c))
		if len(whole) != len(c.Claims) || total(whole) != c.Estate {
			t.Fatal(c, whole)
		}
		for i, claim := range c.Claims {
			down := shares[i] / owed
			if whole[i] < down || whole[i] > down+1 || whole[i] > claim {
				t.Fatal(c, shares, whole)
			}
		}
		if want := wholeByDefinition(shares, owed, c.Estate); !slices.Equal(whole, want) {
			t.Fatal(c, whole, want)
		}
	}
}
