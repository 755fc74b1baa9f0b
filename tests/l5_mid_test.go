package tests

import (
	"slices"
	"testing"

	"loop.example/shortestates/impl"
)

// midByDefinition tells anew, from the sentence of the document, whether awards of a case are at most half of the claims, or at least half.
func midByDefinition(c impl.Case, awards []int) bool {
	for i, award := range awards {
		if 2*c.Estate <= total(c.Claims) && 2*award > 48*c.Claims[i] {
			return false
		}
		if 2*c.Estate >= total(c.Claims) && 2*award < 48*c.Claims[i] {
			return false
		}
	}
	return true
}

func TestMidByHand(t *testing.T) {
	for _, r := range []struct {
		of     impl.Case
		awards []int
		mid    bool
	}{
		{caseOf(4, 2, 4, 6), []int{48, 72, 72}, true},
		{caseOf(4, 2, 4, 6), []int{0, 96, 96}, true},
		{caseOf(4, 2, 4, 6), []int{0, 48, 144}, true},
		{caseOf(4, 2, 4, 6), []int{48, 96, 48}, true},
		{caseOf(4, 2, 4, 6), []int{0, 0, 192}, false},
		{caseOf(4, 2, 4, 6), []int{0, 47, 145}, false},
		{caseOf(4, 2, 4, 6), []int{49, 71, 72}, false},
		{caseOf(4, 2, 4, 6), []int{48, 97, 47}, false},
		{caseOf(8, 2, 4, 6), []int{48, 120, 216}, true},
		{caseOf(8, 2, 4, 6), []int{48, 96, 240}, true},
		{caseOf(8, 2, 4, 6), []int{48, 192, 144}, true},
		{caseOf(8, 2, 4, 6), []int{96, 144, 144}, true},
		{caseOf(8, 2, 4, 6), []int{96, 145, 143}, false},
		{caseOf(8, 2, 4, 6), []int{47, 97, 240}, false},
		{caseOf(8, 2, 4, 6), []int{48, 95, 241}, false},
		{caseOf(8, 2, 4, 6), []int{96, 0, 288}, false},
		{caseOf(6, 2, 4, 6), []int{48, 96, 144}, true},
		{caseOf(6, 2, 4, 6), []int{49, 95, 144}, false},
		{caseOf(6, 2, 4, 6), []int{47, 97, 144}, false},
		{caseOf(6, 2, 4, 6), []int{48, 97, 143}, false},
		{caseOf(6, 2, 4, 6), []int{48, 95, 145}, false},
		{caseOf(6, 2, 4, 6), []int{96, 96, 96}, false},
		{caseOf(6, 2, 4, 6), []int{0, 0, 288}, false},
		{caseOf(3, 1, 2, 4), []int{24, 48, 72}, true},
		{caseOf(3, 1, 2, 4), []int{0, 48, 96}, true},
		{caseOf(3, 1, 2, 4), []int{0, 47, 97}, false},
		{caseOf(3, 1, 2, 4), []int{25, 47, 72}, false},
		{caseOf(4, 1, 2, 4), []int{24, 48, 120}, true},
		{caseOf(4, 1, 2, 4), []int{48, 48, 96}, true},
		{caseOf(4, 1, 2, 4), []int{48, 49, 95}, false},
		{caseOf(4, 1, 2, 4), []int{23, 48, 121}, false},
		{caseOf(0, 2, 4, 6), []int{0, 0, 0}, true},
		{caseOf(12, 2, 4, 6), []int{96, 192, 288}, true},
		{caseOf(2, 5), []int{96}, true},
		{caseOf(3, 5), []int{144}, true},
		{caseOf(6, 12), []int{288}, true},
		{caseOf(0, 0), []int{0}, true},
		{caseOf(0, 0, 0, 0, 0), []int{0, 0, 0, 0}, true},
		{caseOf(4, 0, 9), []int{0, 192}, true},
		{caseOf(5, 0, 9), []int{0, 240}, true},
		{caseOf(9, 0, 9, 0, 9), []int{0, 216, 0, 216}, true},
		{caseOf(9, 0, 9, 0, 9), []int{0, 217, 0, 215}, false},
		{caseOf(4, 5, 0, 5), []int{120, 0, 72}, true},
		{caseOf(4, 5, 0, 5), []int{121, 0, 71}, false},
		{caseOf(5, 5, 0, 5), []int{120, 0, 120}, true},
		{caseOf(5, 5, 0, 5), []int{121, 0, 119}, false},
		{caseOf(5, 5, 0, 5), []int{119, 0, 121}, false},
		{caseOf(6, 5, 0, 5), []int{120, 0, 168}, true},
		{caseOf(6, 5, 0, 5), []int{119, 0, 169}, false},
		{caseOf(23, 12, 12, 12, 12), []int{288, 288, 288, 240}, true},
		{caseOf(23, 12, 12, 12, 12), []int{288, 288, 239, 289}, false},
		{caseOf(24, 12, 12, 12, 12), []int{288, 288, 288, 288}, true},
		{caseOf(24, 12, 12, 12, 12), []int{288, 288, 289, 287}, false},
		{caseOf(25, 12, 12, 12, 12), []int{288, 288, 288, 336}, true},
		{caseOf(25, 12, 12, 12, 12), []int{288, 288, 337, 287}, false},
		{caseOf(48, 12, 12, 12, 12), []int{576, 576, 576, 576}, true},
	} {
		if !impl.AwardsOk(r.of, r.awards) {
			t.Fatal("no awards", r)
		}
		if x := impl.MidOk(r.of, r.awards); x != r.mid {
			t.Fatal(r, x)
		}
	}
}

// checkMid checks what is reported of any awards of a case, and promise 29 for just half of all claims.
func checkMid(t *testing.T, c impl.Case, awards []int) bool {
	t.Helper()
	mid := impl.MidOk(c, awards)
	if mid != midByDefinition(c, awards) {
		t.Fatal(c, awards, mid)
	}
	if 2*c.Estate == total(c.Claims) && mid != slices.Equal(awards, halfOf(c.Claims)) {
		t.Fatal("just half of all claims", c, awards, mid)
	}
	other, _ := impl.OtherCase(c)
	if losses := impl.LossesOf(c, awards); impl.MidOk(other, losses) != mid {
		t.Fatal("losses", c, awards, losses, mid)
	}
	return mid
}

// halfOf returns half of each claim, in parts.
func halfOf(claims []int) []int {
	halves := make([]int, len(claims))
	for i, claim := range claims {
		halves[i] = 24 * claim
	}
	return halves
}

// Promise 29.
func TestNobodyGetsMoreThanHalfBeforeAllHaveHalf(t *testing.T) {
	d := draws(32)
	for _, c := range validCases() {
		if halves := impl.HalfAwards(c); !checkMid(t, c, halves) {
			t.Fatal(c, halves)
		}
		checkMid(t, c, impl.EvenAwards(c))
		checkMid(t, c, impl.EvenLosses(c))
		for range 3 {
			checkMid(t, c, drawnAwards(&d, c))
		}
	}
}

// Promise 29: of all awards of small cases.
func TestAllAwardsOfSmallCasesAndHalf(t *testing.T) {
	mid, beyond := 0, 0
	for _, s := range smallCases() {
		if halves := impl.HalfAwards(s.of); !checkMid(t, s.of, halves) {
			t.Fatal(s.of, halves)
		}
		for _, awards := range s.rows {
			if checkMid(t, s.of, awards) {
				mid++
			} else {
				beyond++
			}
		}
	}
	if mid < 1000 || beyond < 1000 {
		t.Fatal("too few awards", mid, beyond)
	}
}
