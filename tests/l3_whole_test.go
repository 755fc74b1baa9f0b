package tests

import (
	"slices"
	"testing"

	"loop.example/shortestates/impl"
)

// gridAwards returns all awards of a case that are told in steps of so many parts.
func gridAwards(c impl.Case, step int) [][]int {
	var rows [][]int
	var choose func(row []int, left int)
	choose = func(row []int, left int) {
		place := len(row)
		if place == len(c.Claims) {
			if left == 0 {
				rows = append(rows, slices.Clone(row))
			}
			return
		}
		for award := 0; award <= min(left, impl.Parts*c.Claims[place]); award += step {
			choose(append(row, award), left-award)
		}
	}
	choose(nil, impl.Parts*c.Estate)
	return rows
}

// smallCase has a case of small claims, equal ones and claims of nothing among them, and awards of it.
type smallCase struct {
	of   impl.Case
	rows [][]int
}

// smallCases returns small cases of one or two people with all of their awards, and those of more people with awards in greater steps.
func smallCases() []smallCase {
	var small []smallCase
	for _, r := range []struct {
		people, step int
		amounts      []int
	}{
		{1, 1, []int{0, 1, 2, 12}},
		{2, 1, []int{0, 1, 2, 3, 4}},
		{3, 8, []int{0, 1, 2, 3}},
		{4, 16, []int{0, 1, 2}},
	} {
		for _, claims := range claimRows(r.people, r.amounts) {
			for estate := 0; estate <= total(claims); estate++ {
				c := caseOf(estate, claims...)
				small = append(small, smallCase{c, gridAwards(c, r.step)})
			}
		}
	}
	return small
}

func TestWholeAwardsByHand(t *testing.T) {
	for _, r := range []struct {
		of     impl.Case
		awards []int
		whole  []int
	}{
		{caseOf(7, 2, 4, 6), []int{96, 120, 120}, []int{2, 3, 2}},
		{caseOf(7, 2, 4, 6), []int{16, 112, 208}, []int{1, 2, 4}},
		{caseOf(7, 2, 4, 6), []int{48, 96, 192}, []int{1, 2, 4}},
		{caseOf(7, 2, 4, 6), []int{49, 96, 191}, []int{1, 2, 4}},
		{caseOf(7, 2, 4, 6), []int{47, 96, 193}, []int{1, 2, 4}},
		{caseOf(7, 2, 4, 6), []int{72, 72, 192}, []int{2, 1, 4}},
		{caseOf(7, 2, 4, 6), []int{72, 71, 193}, []int{2, 1, 4}},
		{caseOf(7, 2, 4, 6), []int{71, 72, 193}, []int{1, 2, 4}},
		{caseOf(0, 2, 4, 6), []int{0, 0, 0}, []int{0, 0, 0}},
		{caseOf(12, 2, 4, 6), []int{96, 192, 288}, []int{2, 4, 6}},
		{caseOf(0, 0), []int{0}, []int{0}},
		{caseOf(7, 12), []int{336}, []int{7}},
		{caseOf(12, 12), []int{576}, []int{12}},
		{caseOf(0, 0, 0, 0, 0), []int{0, 0, 0, 0}, []int{0, 0, 0, 0}},
		{caseOf(2, 1, 1, 1), []int{32, 32, 32}, []int{1, 1, 0}},
		{caseOf(1, 3, 0, 3), []int{24, 0, 24}, []int{1, 0, 0}},
		{caseOf(1, 3, 0, 3), []int{23, 0, 25}, []int{0, 0, 1}},
		{caseOf(1, 12, 12, 12, 12), []int{12, 12, 12, 12}, []int{1, 0, 0, 0}},
		{caseOf(2, 12, 12, 12, 12), []int{12, 36, 12, 36}, []int{0, 1, 0, 1}},
		{caseOf(2, 12, 12, 12, 12), []int{36, 12, 36, 12}, []int{1, 0, 1, 0}},
		{caseOf(3, 12, 12, 12, 12), []int{36, 36, 36, 36}, []int{1, 1, 1, 0}},
		{caseOf(3, 1, 1, 1, 1), []int{47, 1, 48, 48}, []int{1, 0, 1, 1}},
		{caseOf(48, 12, 12, 12, 12), []int{576, 576, 576, 576}, []int{12, 12, 12, 12}},
		{caseOf(47, 12, 12, 12, 12), []int{564, 564, 564, 564}, []int{12, 12, 12, 11}},
	} {
		if x := impl.WholeAwards(r.of, r.awards); !slices.Equal(x, r.whole) {
			t.Fatal(r.of, r.awards, x)
		}
	}
}

// checkWhole checks promise 21 of awards of a case, and that just those get units that the document names.
func checkWhole(t *testing.T, c impl.Case, awards []int) {
	t.Helper()
	whole := impl.WholeAwards(c, awards)
	if len(whole) != len(c.Claims) || total(whole) != c.Estate {
		t.Fatal(c, awards, whole)
	}
	for i, units := range whole {
		away := 48*units - awards[i]
		if units < 0 || units > c.Claims[i] || away <= -48 || away >= 48 {
			t.Fatal(c, awards, whole)
		}
	}
	parts := inParts(whole)
	if again := impl.WholeAwards(c, parts); !impl.AwardsOk(c, parts) || !slices.Equal(again, whole) {
		t.Fatal("whole awards stay", c, awards, whole, again)
	}
	if want := wholeByDefinition(awards, 48, c.Estate); !slices.Equal(whole, want) {
		t.Fatal(c, awards, whole, want)
	}
}

// Promise 21.
func TestWholeUnitsDivideAll(t *testing.T) {
	d := draws(21)
	for _, c := range validCases() {
		checkWhole(t, c, impl.EvenAwards(c))
		checkWhole(t, c, impl.EvenLosses(c))
		for range 3 {
			checkWhole(t, c, drawnAwards(&d, c))
		}
	}
	for _, s := range smallCases() {
		for _, awards := range s.rows {
			checkWhole(t, s.of, awards)
		}
	}
}
