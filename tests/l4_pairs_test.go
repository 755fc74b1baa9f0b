package tests

import (
	"slices"
	"testing"

	"loop.example/shortestates/impl"
)

// pairByParts tells anew twice what two people get, by giving the estate part by part: up to the lesser claim both want each part and halve it, from there up to the greater one only who claims more wants it, and beyond that both get half of each further part again.
func pairByParts(first, second, estate int) (int, int) {
	twiceFirst, twiceSecond := 0, 0
	for given := range estate {
		switch {
		case given < min(first, second) || given >= max(first, second):
			twiceFirst++
			twiceSecond++
		case first > second:
			twiceFirst += 2
		default:
			twiceSecond += 2
		}
	}
	return twiceFirst, twiceSecond
}

func TestPairsOfTwoByHand(t *testing.T) {
	for _, r := range []struct{ first, second, estate, twiceFirst, twiceSecond int }{
		{100, 50, 100, 150, 50},
		{50, 100, 100, 50, 150},
		{10, 4, 3, 3, 3},
		{10, 4, 4, 4, 4},
		{10, 4, 5, 6, 4},
		{10, 4, 9, 14, 4},
		{10, 4, 10, 16, 4},
		{10, 4, 11, 17, 5},
		{10, 4, 13, 19, 7},
		{10, 4, 14, 20, 8},
		{10, 4, 1, 1, 1},
		{10, 4, 0, 0, 0},
		{4, 10, 11, 5, 17},
		{7, 7, 0, 0, 0},
		{7, 7, 7, 7, 7},
		{7, 7, 8, 8, 8},
		{7, 7, 14, 14, 14},
		{0, 0, 0, 0, 0},
		{0, 9, 0, 0, 0},
		{0, 9, 5, 0, 10},
		{0, 9, 9, 0, 18},
		{9, 0, 5, 10, 0},
		{9, 0, 9, 18, 0},
		{1, 1, 1, 1, 1},
		{1, 1, 2, 2, 2},
		{0, 576, 576, 0, 1152},
		{576, 0, 575, 1150, 0},
		{576, 576, 1, 1, 1},
		{576, 576, 1151, 1151, 1151},
		{576, 576, 1152, 1152, 1152},
		{576, 1, 576, 1151, 1},
		{576, 575, 1151, 1152, 1150},
		{575, 576, 576, 575, 577},
	} {
		first, second, ok := impl.PairTwice(r.first, r.second, r.estate)
		if !ok || first != r.twiceFirst || second != r.twiceSecond {
			t.Fatal(r, first, second, ok)
		}
	}
}

// checkPair checks promises 25 and 27 of two claims and an estate, and what each of both gets.
func checkPair(t *testing.T, first, second, estate int) {
	t.Helper()
	twiceFirst, twiceSecond, ok := impl.PairTwice(first, second, estate)
	wantFirst, wantSecond := pairByParts(first, second, estate)
	if !ok || twiceFirst != wantFirst || twiceSecond != wantSecond {
		t.Fatal(first, second, estate, twiceFirst, twiceSecond, ok, wantFirst, wantSecond)
	}
	if twiceFirst+twiceSecond != 2*estate || twiceFirst < 0 || twiceFirst > 2*first || twiceSecond < 0 || twiceSecond > 2*second {
		t.Fatal("together", first, second, estate, twiceFirst, twiceSecond)
	}
	if a, b, ok := impl.PairTwice(second, first, estate); !ok || a != twiceSecond || b != twiceFirst {
		t.Fatal("exchanged", first, second, estate, a, b, ok)
	}
	if a, b, ok := impl.PairTwice(first, second, first+second-estate); !ok || a != 2*first-twiceFirst || b != 2*second-twiceSecond {
		t.Fatal("what is lost", first, second, estate, a, b, ok)
	}
	a, b, ok := impl.PairTwice(first, second, estate+1)
	if ok != (estate < first+second) {
		t.Fatal("a part more", first, second, estate, ok)
	}
	if ok && (a < twiceFirst || b < twiceSecond || a+b != twiceFirst+twiceSecond+2) {
		t.Fatal("with more", first, second, estate, a, b)
	}
}

// Promises 25 and 27.
func TestWhatOneLeavesTheOtherOneGets(t *testing.T) {
	for _, claims := range claimRows(2, []int{0, 1, 2, 3, 5, 8, 24, 47, 48, 49, 288, 575, 576}) {
		for estate := 0; estate <= total(claims); estate++ {
			checkPair(t, claims[0], claims[1], estate)
		}
	}
	d := draws(27)
	for range 20000 {
		first, second := d.below(577), d.below(577)
		if d.below(4) == 0 {
			second = first
		}
		checkPair(t, first, second, d.below(first+second+1))
	}
}

// halvesOf returns the awards that are told by half claims, and their level, or beyond half of all claims that of the losses. They alone agree for each two people. Each whole level up to half of MaxClaim is tried.
func halvesOf(c impl.Case) ([]int, int) {
	row, parts := make([]int, len(c.Claims)), inParts(c.Claims)
	given := min(48*c.Estate, total(parts)-48*c.Estate)
	for level := range 289 {
		for i, claim := range parts {
			row[i] = min(claim/2, level)
		}
		if total(row) != given {
			continue
		}
		if given < 48*c.Estate {
			return less(parts, row), level
		}
		return row, level
	}
	return nil, -1
}

// pairsByDefinition tells anew, from the sentence of the document, whether awards of a case agree for each two people.
func pairsByDefinition(c impl.Case, awards []int) bool {
	for i := range awards {
		for j := range awards {
			first, second := pairByParts(48*c.Claims[i], 48*c.Claims[j], awards[i]+awards[j])
			if i != j && (first != 2*awards[i] || second != 2*awards[j]) {
				return false
			}
		}
	}
	return true
}

func TestAwardsThatAgreeByHand(t *testing.T) {
	for _, r := range []struct {
		of     impl.Case
		awards []int
		agree  bool
	}{
		{caseOf(3, 2, 4), []int{48, 96}, true},
		{caseOf(3, 2, 4), []int{72, 72}, false},
		{caseOf(3, 2, 4), []int{47, 97}, false},
		{caseOf(3, 2, 4), []int{49, 95}, false},
		{caseOf(3, 4, 2), []int{96, 48}, true},
		{caseOf(3, 4, 2), []int{48, 96}, false},
		{caseOf(1, 2, 4), []int{24, 24}, true},
		{caseOf(1, 2, 4), []int{23, 25}, false},
		{caseOf(5, 2, 4), []int{72, 168}, true},
		{caseOf(5, 2, 4), []int{71, 169}, false},
		{caseOf(9, 2, 4, 6), []int{48, 144, 240}, true},
		{caseOf(9, 2, 4, 6), []int{96, 168, 168}, false},
		{caseOf(9, 2, 4, 6), []int{48, 145, 239}, false},
		{caseOf(9, 2, 4, 6), []int{49, 144, 239}, false},
		{caseOf(9, 2, 4, 6), []int{49, 143, 240}, false},
		{caseOf(5, 2, 4, 6), []int{48, 96, 96}, true},
		{caseOf(5, 2, 4, 6), []int{80, 80, 80}, false},
		{caseOf(6, 2, 4, 6), []int{48, 96, 144}, true},
		{caseOf(6, 6, 2, 4), []int{144, 48, 96}, true},
		{caseOf(6, 6, 2, 4), []int{145, 48, 95}, false},
		{caseOf(0, 2, 4, 6), []int{0, 0, 0}, true},
		{caseOf(12, 2, 4, 6), []int{96, 192, 288}, true},
		{caseOf(0, 0), []int{0}, true},
		{caseOf(0, 12), []int{0}, true},
		{caseOf(7, 12), []int{336}, true},
		{caseOf(12, 12), []int{576}, true},
		{caseOf(0, 0, 0), []int{0, 0}, true},
		{caseOf(5, 0, 9), []int{0, 240}, true},
		{caseOf(5, 9, 0), []int{240, 0}, true},
		{caseOf(0, 0, 0, 0, 0), []int{0, 0, 0, 0}, true},
		{caseOf(1, 1, 1), []int{24, 24}, true},
		{caseOf(1, 1, 1), []int{25, 23}, false},
		{caseOf(1, 1, 1, 1), []int{16, 16, 16}, true},
		{caseOf(1, 1, 1, 1), []int{16, 17, 15}, false},
		{caseOf(1, 12, 12, 12, 12), []int{12, 12, 12, 12}, true},
		{caseOf(1, 12, 12, 12, 12), []int{12, 12, 13, 11}, false},
		{caseOf(48, 12, 12, 12, 12), []int{576, 576, 576, 576}, true},
		{caseOf(47, 12, 12, 12, 12), []int{564, 564, 564, 564}, true},
		{caseOf(47, 12, 12, 12, 12), []int{564, 564, 576, 552}, false},
	} {
		if !impl.AwardsOk(r.of, r.awards) {
			t.Fatal("no awards", r)
		}
		if x := impl.PairsOk(r.of, r.awards); x != r.agree {
			t.Fatal(r, x)
		}
	}
}

// Who claims nothing agrees with everybody, so that it is on one pair alone whether all agree.
func TestEachPairIsAsked(t *testing.T) {
	for people := 2; people <= impl.MaxClaimants; people++ {
		for i := range people {
			for j := range i {
				c := caseOf(3, make([]int, people)...)
				c.Claims[i], c.Claims[j] = 2, 4
				awards := make([]int, people)
				awards[i], awards[j] = 48, 96
				if !impl.PairsOk(c, awards) {
					t.Fatal(c, awards)
				}
				awards[i], awards[j] = 49, 95
				if impl.PairsOk(c, awards) {
					t.Fatal(c, awards)
				}
			}
		}
	}
}

// checkPairs checks promise 26 of any awards of a case, and what is reported of them.
func checkPairs(t *testing.T, c impl.Case, awards []int) bool {
	t.Helper()
	agree := impl.PairsOk(c, awards)
	halves, _ := halvesOf(c)
	if agree != pairsByDefinition(c, awards) || agree != slices.Equal(awards, halves) {
		t.Fatal(c, awards, agree)
	}
	other, _ := impl.OtherCase(c)
	if agree != impl.PairsOk(other, impl.LossesOf(c, awards)) {
		t.Fatal("losses", c, awards, agree)
	}
	if agree && !impl.KeepsOrder(c, awards) {
		t.Fatal("order", c, awards)
	}
	return agree
}

// Promise 26: of awards that agree, of those that are a part away from them, and of others.
func TestLossesAgreeWhereAwardsDo(t *testing.T) {
	d := draws(26)
	for _, c := range validCases() {
		halves, _ := halvesOf(c)
		if !impl.AwardsOk(c, halves) || !checkPairs(t, c, halves) {
			t.Fatal(c, halves)
		}
		checkPairs(t, c, impl.EvenAwards(c))
		checkPairs(t, c, impl.EvenLosses(c))
		checkPairs(t, c, drawnAwards(&d, c))
		from, to := d.below(len(halves)), d.below(len(halves))
		if from != to && halves[from] > 0 && halves[to] < 48*c.Claims[to] {
			halves[from]--
			halves[to]++
			if checkPairs(t, c, halves) {
				t.Fatal("a part away", c, halves)
			}
		}
	}
}

// Promise 26: of all awards of small cases.
func TestAllAwardsOfSmallCasesAgreeWithLosses(t *testing.T) {
	agree, differ := 0, 0
	for _, s := range smallCases() {
		for _, awards := range s.rows {
			if checkPairs(t, s.of, awards) {
				agree++
			} else {
				differ++
			}
		}
	}
	if agree < 100 || differ < 100 {
		t.Fatal("too few awards", agree, differ)
	}
}

// With other places for the people the same awards agree.
func TestNamesChangeNoPairs(t *testing.T) {
	d := draws(28)
	for _, c := range validCases() {
		awards, _ := halvesOf(c)
		if d.below(2) == 0 {
			awards = drawnAwards(&d, c)
		}
		named, namedAwards := drawnNames(&d, c, awards)
		if impl.PairsOk(c, awards) != impl.PairsOk(named, namedAwards) {
			t.Fatal(c, awards, named, namedAwards)
		}
	}
}
