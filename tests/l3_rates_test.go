package tests

import (
	"slices"
	"testing"

	"loop.example/shortestates/impl"
)

// alikeForEqual reports whether awards are the same for people with equal claims.
func alikeForEqual(c impl.Case, awards []int) bool {
	for i, claim := range c.Claims {
		if awards[i] != awards[slices.Index(c.Claims, claim)] {
			return false
		}
	}
	return true
}

// hasEqual reports whether two people of a case have equal claims.
func hasEqual(c impl.Case) bool {
	claims := slices.Sorted(slices.Values(c.Claims))
	return len(slices.Compact(claims)) < len(c.Claims)
}

// Of two people with equal claims neither claims more, whatever the two are awarded.
func TestRatesOfEqualClaimsByHand(t *testing.T) {
	for _, r := range []struct {
		of         impl.Case
		awards     []int
		rise, fall bool
	}{
		{caseOf(1, 1, 1), []int{10, 38}, true, true},
		{caseOf(1, 1, 1), []int{38, 10}, true, true},
		{caseOf(1, 1, 1), []int{0, 48}, true, true},
		{caseOf(1, 1, 1), []int{24, 24}, true, true},
		{caseOf(12, 12, 12), []int{576, 0}, true, true},
		{caseOf(19, 11, 11, 11), []int{54, 528, 330}, true, true},
		{caseOf(8, 5, 7, 5), []int{33, 252, 99}, true, false},
		{caseOf(8, 5, 7, 5), []int{99, 252, 33}, true, false},
		{caseOf(8, 7, 5, 5), []int{252, 33, 99}, true, false},
		{caseOf(8, 5, 7, 5), []int{0, 144, 240}, false, false},
		{caseOf(4, 1, 3, 3), []int{48, 72, 72}, false, true},
		{caseOf(4, 1, 3, 3), []int{48, 0, 144}, false, true},
		{caseOf(4, 1, 3, 3), []int{47, 1, 144}, false, false},
		{caseOf(4, 1, 3, 3), []int{24, 72, 96}, true, false},
		{caseOf(4, 1, 3, 3), []int{25, 72, 95}, false, false},
		{caseOf(4, 1, 3, 3), []int{0, 90, 102}, true, false},
		{caseOf(4, 3, 1, 3), []int{102, 0, 90}, true, false},
		{caseOf(7, 1, 3, 3), []int{48, 144, 144}, true, true},
		{caseOf(2, 1, 1, 2), []int{30, 10, 56}, false, false},
		{caseOf(2, 1, 1, 2), []int{20, 10, 66}, true, false},
		{caseOf(2, 1, 1, 2), []int{48, 24, 24}, false, true},
		{caseOf(2, 1, 1, 2), []int{36, 28, 32}, false, true},
		{caseOf(2, 2, 1, 1), []int{32, 28, 36}, false, true},
		{caseOf(2, 1, 1, 2), []int{24, 24, 48}, true, true},
		{caseOf(5, 0, 9, 9), []int{0, 7, 233}, true, true},
		{caseOf(5, 9, 0, 9, 0), []int{240, 0, 0, 0}, true, true},
		{caseOf(2, 1, 1, 2, 2), []int{8, 16, 34, 38}, true, false},
		{caseOf(2, 1, 1, 2, 2), []int{8, 20, 34, 34}, false, false},
		{caseOf(2, 2, 1, 2, 1), []int{24, 20, 32, 20}, false, true},
		{caseOf(2, 2, 1, 2, 1), []int{16, 20, 30, 30}, false, true},
		{caseOf(2, 1, 1, 1, 3), []int{4, 10, 12, 70}, true, false},
		{caseOf(2, 1, 1, 1, 3), []int{24, 20, 28, 24}, false, true},
		{caseOf(2, 1, 1, 1, 3), []int{4, 10, 27, 55}, false, false},
		{caseOf(20, 12, 12, 12, 12), []int{576, 0, 300, 84}, true, true},
	} {
		if !impl.AwardsOk(r.of, r.awards) {
			t.Fatal("no awards", r)
		}
		rise, fall := impl.RatesRise(r.of, r.awards), impl.RatesFall(r.of, r.awards)
		if rise != r.rise || fall != r.fall {
			t.Fatal(r, rise, fall)
		}
		checkOrder(t, r.of, r.awards)
	}
}

// If nobody claims more than another one, and beside those who claim nothing, rates rise and fall for all awards.
func TestRatesWithoutGreaterClaims(t *testing.T) {
	d := draws(25)
	for people := 1; people <= impl.MaxClaimants; people++ {
		for claim := 0; claim <= impl.MaxClaim; claim++ {
			for _, claims := range claimRows(people, []int{0, claim}) {
				c := caseOf(d.below(total(claims)+1), claims...)
				awards := drawnAwards(&d, c)
				if !impl.RatesRise(c, awards) || !impl.RatesFall(c, awards) {
					t.Fatal(c, awards, impl.RatesRise(c, awards), impl.RatesFall(c, awards))
				}
			}
		}
	}
}

// Promise 24: of awards that are the same for equal claims, in cases with equal claims and in cases without.
func TestRatesThatRiseAndFallAreShares(t *testing.T) {
	with, without := 0, 0
	for _, s := range smallCases() {
		for _, awards := range s.rows {
			if !impl.RatesRise(s.of, awards) || !impl.RatesFall(s.of, awards) || !alikeForEqual(s.of, awards) {
				continue
			}
			checkShares(t, s.of, awards)
			if hasEqual(s.of) {
				with++
			} else {
				without++
			}
		}
	}
	if with < 100 || without < 100 {
		t.Fatal("too few shares", with, without)
	}
}

// Awards that differ for equal claims have rates that rise and fall just if nobody, beside those who claim nothing, claims more than another one: a further claim would need one part of the claim for both.
func TestAwardsThatDifferForEqualClaims(t *testing.T) {
	alone, beside := 0, 0
	for _, s := range smallCases() {
		claims := slices.DeleteFunc(slices.Sorted(slices.Values(s.of.Claims)), func(claim int) bool { return claim == 0 })
		oneAmount := len(slices.Compact(claims)) < 2
		for _, awards := range s.rows {
			if alikeForEqual(s.of, awards) {
				continue
			}
			if both := impl.RatesRise(s.of, awards) && impl.RatesFall(s.of, awards); both != oneAmount {
				t.Fatal(s.of, awards, both)
			}
			if oneAmount {
				alone++
			} else {
				beside++
			}
		}
	}
	if alone < 100 || beside < 100 {
		t.Fatal("too few awards that differ", alone, beside)
	}
}
