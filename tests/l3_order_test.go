package tests

import (
	"math/big"
	"testing"

	"loop.example/shortestates/impl"
)

// keptByDefinition tells anew, from the sentence of the document, whether awards of a case keep the order.
func keptByDefinition(c impl.Case, awards []int) bool {
	for i := range awards {
		for j := range awards {
			if c.Claims[i] > c.Claims[j] {
				continue
			}
			if awards[i] > awards[j] || 48*c.Claims[i]-awards[i] > 48*c.Claims[j]-awards[j] {
				return false
			}
		}
	}
	return true
}

// ratesByDefinition tells anew, by fractions, whether the parts of the claims that are awarded rise with the claims, and whether they fall. Of equal claims none is the greater one; a claim of nothing has no part.
func ratesByDefinition(c impl.Case, awards []int) (rise, fall bool) {
	rise, fall = true, true
	for i, claim := range c.Claims {
		for j, other := range c.Claims {
			if claim == 0 || claim >= other {
				continue
			}
			first, second := big.NewRat(int64(awards[i]), int64(claim)), big.NewRat(int64(awards[j]), int64(other))
			rise = rise && first.Cmp(second) <= 0
			fall = fall && first.Cmp(second) >= 0
		}
	}
	return rise, fall
}

// sharesInParts returns the shares of a case in parts, and whether these are whole.
func sharesInParts(c impl.Case) ([]int, bool) {
	owed := max(1, total(c.Claims))
	row := make([]int, len(c.Claims))
	for i, claim := range c.Claims {
		if 48*claim*c.Estate%owed != 0 {
			return nil, false
		}
		row[i] = 48 * claim * c.Estate / owed
	}
	return row, true
}

func TestOrderAndRatesByHand(t *testing.T) {
	for _, r := range []struct {
		of               impl.Case
		awards           []int
		kept, rise, fall bool
	}{
		{caseOf(7, 2, 4, 6), []int{96, 120, 120}, true, false, true},
		{caseOf(7, 2, 4, 6), []int{16, 112, 208}, true, true, false},
		{caseOf(7, 2, 4, 6), []int{56, 112, 168}, true, true, true},
		{caseOf(7, 2, 4, 6), []int{56, 113, 167}, true, false, false},
		{caseOf(7, 2, 4, 6), []int{55, 112, 169}, true, true, false},
		{caseOf(7, 2, 4, 6), []int{57, 112, 167}, true, false, true},
		{caseOf(7, 2, 4, 6), []int{0, 192, 144}, false, false, false},
		{caseOf(7, 2, 4, 6), []int{96, 60, 180}, false, false, false},
		{caseOf(7, 2, 4, 6), []int{0, 48, 288}, false, true, false},
		{caseOf(7, 2, 4, 6), []int{48, 0, 288}, false, false, false},
		{caseOf(7, 6, 2, 4), []int{208, 16, 112}, true, true, false},
		{caseOf(7, 6, 2, 4), []int{120, 96, 120}, true, false, true},
		{caseOf(1, 1, 1), []int{24, 24}, true, true, true},
		{caseOf(1, 1, 1), []int{25, 23}, false, true, true},
		{caseOf(1, 1, 1), []int{23, 25}, false, true, true},
		{caseOf(1, 1, 2), []int{16, 32}, true, true, true},
		{caseOf(1, 1, 2), []int{17, 31}, true, false, true},
		{caseOf(1, 1, 2), []int{15, 33}, true, true, false},
		{caseOf(1, 2, 1), []int{31, 17}, true, false, true},
		{caseOf(1, 1, 2), []int{24, 24}, true, false, true},
		{caseOf(1, 1, 2), []int{25, 23}, false, false, true},
		{caseOf(2, 1, 2), []int{24, 72}, true, true, false},
		{caseOf(2, 1, 2), []int{23, 73}, false, true, false},
		{caseOf(0, 2, 4, 6), []int{0, 0, 0}, true, true, true},
		{caseOf(12, 2, 4, 6), []int{96, 192, 288}, true, true, true},
		{caseOf(5, 0, 9), []int{0, 240}, true, true, true},
		{caseOf(5, 9, 0, 9), []int{120, 0, 120}, true, true, true},
		{caseOf(5, 9, 0, 9), []int{121, 0, 119}, false, true, true},
		{caseOf(0, 0), []int{0}, true, true, true},
		{caseOf(0, 0, 0, 0, 0), []int{0, 0, 0, 0}, true, true, true},
		{caseOf(7, 12), []int{336}, true, true, true},
		{caseOf(12, 12), []int{576}, true, true, true},
		{caseOf(48, 12, 12, 12, 12), []int{576, 576, 576, 576}, true, true, true},
		{caseOf(1, 12, 12, 12, 12), []int{12, 12, 12, 12}, true, true, true},
		{caseOf(1, 12, 12, 12, 12), []int{12, 12, 13, 11}, false, true, true},
	} {
		kept, rise, fall := impl.KeepsOrder(r.of, r.awards), impl.RatesRise(r.of, r.awards), impl.RatesFall(r.of, r.awards)
		if kept != r.kept || rise != r.rise || fall != r.fall {
			t.Fatal(r, kept, rise, fall)
		}
	}
}

// checkOrder checks promises 20, 23 and 24 of any awards of a case, and what is reported of them.
func checkOrder(t *testing.T, c impl.Case, awards []int) {
	t.Helper()
	other, _ := impl.OtherCase(c)
	losses := impl.LossesOf(c, awards)
	kept, rise, fall := impl.KeepsOrder(c, awards), impl.RatesRise(c, awards), impl.RatesFall(c, awards)
	if kept != keptByDefinition(c, awards) || kept != impl.KeepsOrder(other, losses) {
		t.Fatal("order", c, awards, kept)
	}
	rises, falls := ratesByDefinition(c, awards)
	if rise != rises || fall != falls {
		t.Fatal("rates", c, awards, rise, fall)
	}
	if rise != impl.RatesFall(other, losses) || fall != impl.RatesRise(other, losses) {
		t.Fatal("rates of losses", c, awards, rise, fall)
	}
	alike := alikeForEqual(c, awards)
	if kept && !alike {
		t.Fatal("the order is kept, but not by equal claims", c, awards)
	}
	if rise && fall && alike {
		checkShares(t, c, awards)
	}
}

func checkShares(t *testing.T, c impl.Case, awards []int) {
	t.Helper()
	shares := impl.ShareRow(c)
	for i, award := range awards {
		if award*impl.OwedOf(c) != impl.Parts*shares[i] {
			t.Fatal("rates rise and fall, but no shares", c, awards, shares)
		}
	}
}

// Promises 20, 23 and 24: of drawn awards, and of all awards of small cases.
func TestOrderAndRatesOfLosses(t *testing.T) {
	d := draws(20)
	for _, c := range validCases() {
		for range 3 {
			checkOrder(t, c, drawnAwards(&d, c))
		}
	}
	for _, s := range smallCases() {
		for _, awards := range s.rows {
			checkOrder(t, s.of, awards)
		}
	}
}

// Promises 20, 23 and 24: of even awards, even losses and shares.
func TestOrderAndRatesOfRules(t *testing.T) {
	whole := 0
	for _, c := range validCases() {
		even, losing := impl.EvenAwards(c), impl.EvenLosses(c)
		checkOrder(t, c, even)
		checkOrder(t, c, losing)
		if !impl.KeepsOrder(c, even) || !impl.KeepsOrder(c, losing) {
			t.Fatal("order", c, even, losing)
		}
		if !impl.RatesRise(c, losing) || !impl.RatesFall(c, even) {
			t.Fatal("rates", c, even, losing)
		}
		shares, ok := sharesInParts(c)
		if !ok {
			continue
		}
		whole++
		checkOrder(t, c, shares)
		if !impl.KeepsOrder(c, shares) || !impl.RatesRise(c, shares) || !impl.RatesFall(c, shares) {
			t.Fatal("shares", c, shares)
		}
	}
	if whole < 1000 {
		t.Fatal("too few cases with whole shares", whole)
	}
}

// With other places for the people the same is reported.
func TestNamesChangeNoOrder(t *testing.T) {
	d := draws(22)
	for _, c := range validCases() {
		awards := drawnAwards(&d, c)
		if d.below(3) == 0 {
			awards = impl.EvenLosses(c)
		}
		named, namedAwards := drawnNames(&d, c, awards)
		if impl.KeepsOrder(c, awards) != impl.KeepsOrder(named, namedAwards) ||
			impl.RatesRise(c, awards) != impl.RatesRise(named, namedAwards) ||
			impl.RatesFall(c, awards) != impl.RatesFall(named, namedAwards) {
			t.Fatal(c, awards, named, namedAwards)
		}
	}
}
