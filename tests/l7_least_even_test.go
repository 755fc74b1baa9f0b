package tests

import (
	"slices"
	"testing"

	"loop.example/shortestates/impl"
)

// orderedAwards returns awards of a case that keep the order: so many units are divided by even losses first, and the others by even awards on what is claimed still; and the other way about. Awards that would not be whole are left out.
func orderedAwards(c impl.Case, units int) [][]int {
	var rows [][]int
	first, parts, left := caseOf(units, c.Claims...), inParts(c.Claims), 48*(c.Estate-units)
	claimed := less(parts, impl.EvenLosses(first))
	if even, ok := evenRowByDefinition(claimed, left); ok {
		rows = append(rows, less(parts, less(claimed, even)))
	}
	claimed = less(parts, impl.EvenAwards(first))
	if losses, ok := evenRowByDefinition(claimed, total(claimed)-left); ok {
		rows = append(rows, less(parts, losses))
	}
	return rows
}

// checkLeastEven checks promise 44 of awards that keep the order. No others than even losses are as little even.
func checkLeastEven(t *testing.T, c impl.Case, awards []int) {
	t.Helper()
	losing := impl.EvenLosses(c)
	if !impl.KeepsOrder(c, awards) || !impl.MoreEven(awards, losing) || !moreEvenByDefinition(awards, losing) {
		t.Fatal(c, awards, losing, impl.KeepsOrder(c, awards))
	}
	if impl.MoreEven(losing, awards) != slices.Equal(awards, losing) {
		t.Fatal("others are as little even", c, awards, losing)
	}
}

func TestLeastEvenByHand(t *testing.T) {
	for _, r := range []struct {
		of             impl.Case
		awards, losing []int
	}{
		{caseOf(7, 2, 4, 6), []int{56, 104, 176}, []int{16, 112, 208}},
		{caseOf(7, 2, 4, 6), []int{48, 96, 192}, []int{16, 112, 208}},
		{caseOf(7, 2, 4, 6), []int{96, 120, 120}, []int{16, 112, 208}},
		{caseOf(5, 2, 4, 6), []int{40, 88, 112}, []int{0, 72, 168}},
		{caseOf(5, 2, 4, 6), []int{0, 96, 144}, []int{0, 72, 168}},
		{caseOf(6, 1, 12), []int{24, 264}, []int{0, 288}},
		{caseOf(1, 1, 1, 1), []int{16, 16, 16}, []int{16, 16, 16}},
		{caseOf(5, 9, 0, 9), []int{120, 0, 120}, []int{120, 0, 120}},
		{caseOf(7, 12), []int{336}, []int{336}},
		{caseOf(0, 0), []int{0}, []int{0}},
	} {
		if x := impl.EvenLosses(r.of); !slices.Equal(x, r.losing) {
			t.Fatal(r, x)
		}
		checkLeastEven(t, r.of, r.awards)
		checkLeastEven(t, r.of, r.losing)
	}
	// Awards that do not keep the order may be less even.
	c := caseOf(7, 2, 4, 6)
	if awards := []int{0, 48, 288}; impl.KeepsOrder(c, awards) || impl.MoreEven(awards, impl.EvenLosses(c)) {
		t.Fatal(c, awards)
	}
}

// Promise 44.
func TestNoAwardsThatKeepTheOrderAreLessEvenThanEvenLosses(t *testing.T) {
	d := draws(41)
	ordered, drawn := 0, 0
	for _, c := range validCases() {
		checkLeastEven(t, c, impl.HalfAwards(c))
		checkLeastEven(t, c, impl.ArrivalAwards(c))
		checkLeastEven(t, c, impl.EvenAwards(c))
		checkLeastEven(t, c, impl.EvenLosses(c))
		for _, awards := range orderedAwards(c, d.below(c.Estate+1)) {
			checkLeastEven(t, c, awards)
			ordered++
		}
		for range 3 {
			if awards := drawnAwards(&d, c); impl.KeepsOrder(c, awards) {
				checkLeastEven(t, c, awards)
				drawn++
			}
		}
	}
	if ordered < 10000 || drawn < 1000 {
		t.Fatal("too few awards", ordered, drawn)
	}
}

// Promise 44: of all awards of small cases.
func TestAwardsOfSmallCasesThatKeepTheOrder(t *testing.T) {
	kept := 0
	for _, s := range smallCases() {
		for _, awards := range s.rows {
			if impl.KeepsOrder(s.of, awards) {
				checkLeastEven(t, s.of, awards)
				kept++
			}
		}
	}
	if kept < 1000 {
		t.Fatal("too few awards", kept)
	}
}
