package tests

import (
	"slices"
	"testing"

	"loop.example/shortestates/impl"
)

func TestAwardsByHand(t *testing.T) {
	for _, r := range []struct {
		of     impl.Case
		awards []int
		losses []int
	}{
		{caseOf(5, 2, 4, 6), []int{48, 96, 96}, []int{48, 96, 192}},
		{caseOf(5, 2, 4, 6), []int{0, 0, 240}, []int{96, 192, 48}},
		{caseOf(5, 2, 4, 6), []int{1, 91, 148}, []int{95, 101, 140}},
		{caseOf(5, 2, 4, 6), []int{96, 144, 0}, []int{0, 48, 288}},
		{caseOf(0, 0), []int{0}, []int{0}},
		{caseOf(0, 12), []int{0}, []int{576}},
		{caseOf(12, 12), []int{576}, []int{0}},
		{caseOf(0, 3, 0, 9), []int{0, 0, 0}, []int{144, 0, 432}},
		{caseOf(12, 3, 0, 9), []int{144, 0, 432}, []int{0, 0, 0}},
		{caseOf(48, 12, 12, 12, 12), []int{576, 576, 576, 576}, []int{0, 0, 0, 0}},
		{caseOf(1, 12, 0, 1, 12), []int{1, 0, 46, 1}, []int{575, 0, 2, 575}},
	} {
		if !impl.AwardsOk(r.of, r.awards) {
			t.Fatal("awards", r.of, r.awards)
		}
		if x := impl.LossesOf(r.of, r.awards); !slices.Equal(x, r.losses) {
			t.Fatal("losses", r.of, r.awards, x)
		}
	}
}

// awardsByDefinition tells anew, from the sentence of the document, whether a row of a valid case is of awards.
func awardsByDefinition(c impl.Case, row []int) bool {
	for i, award := range row {
		if award < 0 || award > 48*c.Claims[i] {
			return false
		}
	}
	return total(row) == 48*c.Estate
}

// Each row within one part of the bounds is tried, so that a bound that is off by one shows.
func TestAwardsOkNearTheBounds(t *testing.T) {
	for _, claims := range [][]int{{0, 1}, {1, 1}, {2, 0}, {1, 2}} {
		for estate := 0; estate <= total(claims); estate++ {
			c := caseOf(estate, claims...)
			for first := -2; first <= 48*claims[0]+2; first++ {
				for second := -2; second <= 48*claims[1]+2; second++ {
					row := []int{first, second}
					if impl.AwardsOk(c, row) != awardsByDefinition(c, row) {
						t.Fatal(c, row)
					}
				}
			}
		}
	}
}

// Promises 5 and 8: no awards are less than the rights.
func TestAwardsGiveEachRight(t *testing.T) {
	d := draws(8)
	for _, c := range validCases() {
		rights := impl.RightsOf(c)
		awards := drawnAwards(&d, c)
		if !impl.AwardsOk(c, awards) {
			t.Fatal(c, awards)
		}
		for i, award := range awards {
			if award < impl.Parts*rights[i] || award > impl.Parts*c.Estate {
				t.Fatal(c, awards, rights)
			}
		}
		refuseLessThanRight(t, c, awards, rights)
		refuseMoreThanEstate(t, c)
		all := caseOf(impl.OwedOf(c), c.Claims...)
		claims := make([]int, len(c.Claims))
		for i, claim := range c.Claims {
			claims[i] = 48 * claim
		}
		if !impl.AwardsOk(all, claims) {
			t.Fatal(all, claims)
		}
	}
}

// refuseLessThanRight takes a part more from each person than the right allows, and gives it to the next one: there is no room for it.
func refuseLessThanRight(t *testing.T, c impl.Case, awards, rights []int) {
	t.Helper()
	for i := range awards {
		row := slices.Clone(awards)
		moved := row[i] - impl.Parts*rights[i] + 1
		row[i] -= moved
		row[(i+1)%len(row)] += moved
		if row[i] < impl.Parts*rights[i] && impl.AwardsOk(c, row) {
			t.Fatal(c, row, rights)
		}
	}
}

// refuseMoreThanEstate gives one person a part more than the estate, which another one pays, if there is one.
func refuseMoreThanEstate(t *testing.T, c impl.Case) {
	t.Helper()
	for i := range c.Claims {
		row := make([]int, len(c.Claims))
		row[i] = impl.Parts*c.Estate + 1
		if len(row) > 1 {
			row[(i+1)%len(row)]--
		}
		if impl.AwardsOk(c, row) {
			t.Fatal(c, row)
		}
	}
}

// Promise 9.
func TestLossesAreAwardsOfTheOtherCase(t *testing.T) {
	d := draws(9)
	for _, c := range validCases() {
		other, _ := impl.OtherCase(c)
		for range 3 {
			awards := drawnAwards(&d, c)
			losses := impl.LossesOf(c, awards)
			if len(losses) != len(awards) || !impl.AwardsOk(other, losses) {
				t.Fatal(c, awards, losses)
			}
			for i := range awards {
				if awards[i]+losses[i] != 48*c.Claims[i] {
					t.Fatal(c, awards, losses)
				}
			}
			if back := impl.LossesOf(other, losses); !slices.Equal(back, awards) {
				t.Fatal(c, awards, losses, back)
			}
		}
	}
}
