package tests

import (
	"slices"
	"testing"

	"loop.example/shortestates/impl"
)

// coreByDefinition tells anew, from the sentence of the document, whether a row of a valid case leaves no people with less than they are worth.
func coreByDefinition(c impl.Case, row []int) bool {
	if len(row) != len(c.Claims) {
		return false
	}
	for _, number := range row {
		if number < 0 || number > 48*total(c.Claims) {
			return false
		}
	}
	for set, worth := range worthsByDefinition(c) {
		if members, _ := membersOf(set, len(row)); togetherOf(row, members) < 48*worth {
			return false
		}
	}
	return total(row) == 48*c.Estate
}

func TestCoreByHand(t *testing.T) {
	for _, r := range []struct {
		of   impl.Case
		row  []int
		core bool
	}{
		{caseOf(9, 2, 4, 6), []int{48, 144, 240}, true},
		{caseOf(9, 2, 4, 6), []int{96, 168, 168}, true},
		{caseOf(9, 2, 4, 6), []int{0, 192, 240}, true},
		{caseOf(9, 2, 4, 6), []int{96, 48, 288}, true},
		{caseOf(9, 2, 4, 6), []int{96, 192, 144}, true},
		{caseOf(9, 2, 4, 6), []int{100, 92, 240}, false},
		{caseOf(9, 2, 4, 6), []int{97, 191, 144}, false},
		{caseOf(9, 2, 4, 6), []int{97, 47, 288}, false},
		{caseOf(9, 2, 4, 6), []int{96, 193, 143}, false},
		{caseOf(9, 2, 4, 6), []int{0, 143, 289}, false},
		{caseOf(9, 2, 4, 6), []int{0, 0, 432}, false},
		{caseOf(9, 2, 4, 6), []int{432, 0, 0}, false},
		{caseOf(9, 2, 4, 6), []int{-1, 192, 241}, false},
		{caseOf(9, 2, 4, 6), []int{48, 144, 239}, false},
		{caseOf(9, 2, 4, 6), []int{48, 144, 241}, false},
		{caseOf(9, 2, 4, 6), []int{96, 192, 288}, false},
		{caseOf(9, 2, 4, 6), []int{0, 0, 0}, false},
		{caseOf(9, 2, 4, 6), []int{48, 384}, false},
		{caseOf(9, 2, 4, 6), []int{48, 144, 240, 0}, false},
		{caseOf(9, 2, 4, 6), []int{1, 3, 5}, false},
		{caseOf(5, 2, 4, 6), []int{0, 0, 240}, true},
		{caseOf(5, 2, 4, 6), []int{96, 144, 0}, true},
		{caseOf(5, 2, 4, 6), []int{97, 143, 0}, false},
		{caseOf(5, 2, 4, 6), []int{0, 193, 47}, false},
		{caseOf(3, 2, 4), []int{96, 48}, true},
		{caseOf(3, 2, 4), []int{97, 47}, false},
		{caseOf(3, 2, 4), []int{0, 144}, true},
		{caseOf(3, 2, 4), []int{-1, 145}, false},
		{caseOf(5, 9, 0), []int{240, 0}, true},
		{caseOf(5, 9, 0), []int{239, 1}, false},
		{caseOf(0, 2, 4, 6), []int{0, 0, 0}, true},
		{caseOf(0, 2, 4, 6), []int{1, -1, 0}, false},
		{caseOf(12, 2, 4, 6), []int{96, 192, 288}, true},
		{caseOf(12, 2, 4, 6), []int{97, 191, 288}, false},
		{caseOf(12, 2, 4, 6), []int{96, 191, 289}, false},
		{caseOf(0, 0), []int{0}, true},
		{caseOf(0, 0), []int{1}, false},
		{caseOf(0, 0), []int{-1}, false},
		{caseOf(0, 12), []int{0}, true},
		{caseOf(7, 12), []int{336}, true},
		{caseOf(7, 12), []int{335}, false},
		{caseOf(7, 12), []int{337}, false},
		{caseOf(12, 12), []int{576}, true},
		{caseOf(0, 0, 0, 0, 0), []int{0, 0, 0, 0}, true},
		{caseOf(0, 0, 0, 0, 0), []int{0, 1, 0, -1}, false},
		{caseOf(1, 12, 12, 12, 12), []int{12, 12, 12, 12}, true},
		{caseOf(1, 12, 12, 12, 12), []int{0, 0, 48, 0}, true},
		{caseOf(30, 12, 12, 12, 12), []int{144, 144, 576, 576}, true},
		{caseOf(30, 12, 12, 12, 12), []int{143, 144, 577, 576}, false},
		{caseOf(48, 12, 12, 12, 12), []int{576, 576, 576, 576}, true},
		{caseOf(48, 12, 12, 12, 12), []int{576, 575, 577, 576}, false},
		{caseOf(48, 12, 12, 12, 12), []int{576, 576, 576, 575}, false},
	} {
		if x := impl.CoreOk(r.of, r.row); x != r.core || coreByDefinition(r.of, r.row) != r.core {
			t.Fatal(r, x)
		}
	}
}

// checkCore checks promise 33 of any row, and what is reported of it.
func checkCore(t *testing.T, c impl.Case, row []int) bool {
	t.Helper()
	core := impl.CoreOk(c, row)
	if core != coreByDefinition(c, row) || core != impl.AwardsOk(c, row) {
		t.Fatal(c, row, core)
	}
	return core
}

// Promise 33: of rows that are awards, and of those in which one person has just more than the claim, or just less than the right.
func TestAwardsAreWhatNoPeopleCanBetter(t *testing.T) {
	d := draws(35)
	for _, c := range validCases() {
		halves, rights := impl.HalfAwards(c), impl.RightsOf(c)
		for _, awards := range [][]int{halves, impl.EvenAwards(c), impl.EvenLosses(c), drawnAwards(&d, c)} {
			if !checkCore(t, c, awards) {
				t.Fatal(c, awards)
			}
			person := d.below(len(awards))
			next := (person + 1) % len(awards)
			for _, award := range []int{48*c.Claims[person] + 1, 48*rights[person] - 1, 48 * c.Claims[person], 48 * rights[person]} {
				row := slices.Clone(awards)
				row[next] += row[person] - award
				row[person] += award - row[person]
				checkCore(t, c, row)
			}
		}
		checkCore(t, c, halves[1:])
		checkCore(t, c, append(halves, 0))
	}
}

// Promise 33: each row up to two parts beyond the bounds is tried, in steps for more people.
func TestCoreNearTheBounds(t *testing.T) {
	for _, r := range []struct {
		claims [][]int
		step   int
	}{
		{[][]int{{0}, {1}, {2}, {12}}, 1},
		{[][]int{{0, 0}, {0, 1}, {1, 1}, {2, 0}, {1, 2}}, 1},
		{[][]int{{0, 1, 1}, {1, 1, 1}, {1, 0, 2}, {2, 1, 1}}, 12},
		{[][]int{{0, 1, 0, 1}, {1, 1, 1, 1}}, 24},
	} {
		for _, claims := range r.claims {
			most := 48*total(claims) + 2*r.step
			var amounts []int
			for amount := -2 * r.step; amount <= most; amount += r.step {
				amounts = append(amounts, amount)
			}
			rows := claimRows(len(claims), amounts)
			for estate := 0; estate <= total(claims); estate++ {
				core := 0
				for _, row := range rows {
					if checkCore(t, caseOf(estate, claims...), row) {
						core++
					}
				}
				if core == 0 {
					t.Fatal("no rows", estate, claims)
				}
			}
		}
	}
}

// Promise 33: of all awards of small cases.
func TestAllAwardsOfSmallCasesAreInTheCore(t *testing.T) {
	for _, s := range smallCases() {
		for _, awards := range s.rows {
			if !checkCore(t, s.of, awards) {
				t.Fatal(s.of, awards)
			}
		}
	}
}
