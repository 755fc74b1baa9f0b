package tests

import (
	"slices"
	"testing"

	"loop.example/shortestates/impl"
)

// missesByDefinition tells anew, from the sentence of the document, what each set of people of a case misses by awards.
func missesByDefinition(c impl.Case, awards []int) []int {
	var misses []int
	for set, worth := range worthsByDefinition(c) {
		members, others := membersOf(set, len(awards))
		if len(members) > 0 && len(others) > 0 {
			misses = append(misses, 48*worth-togetherOf(awards, members))
		}
	}
	return slices.SortedFunc(slices.Values(misses), func(a, b int) int { return b - a })
}

// missCase has awards of a case, and what sets of people miss by them, reckoned by hand.
type missCase struct {
	of     impl.Case
	awards []int
	misses []int
}

func missCases() []missCase {
	return []missCase{
		{caseOf(9, 2, 4, 6), []int{48, 144, 240}, []int{-48, -48, -48, -48, -96, -96}},
		{caseOf(9, 6, 2, 4), []int{240, 48, 144}, []int{-48, -48, -48, -48, -96, -96}},
		{caseOf(9, 2, 4, 6), []int{96, 168, 168}, []int{0, -24, -24, -96, -120, -120}},
		{caseOf(5, 2, 4, 6), []int{48, 96, 96}, []int{-48, -48, -96, -96, -96, -144}},
		{caseOf(5, 2, 4, 6), []int{0, 0, 240}, []int{0, 0, 0, -96, -192, -240}},
		{caseOf(0, 2, 4, 6), []int{0, 0, 0}, []int{0, 0, 0, 0, 0, 0}},
		{caseOf(12, 2, 4, 6), []int{96, 192, 288}, []int{0, 0, 0, 0, 0, 0}},
		{caseOf(10, 1, 2, 3, 8), []int{48, 48, 96, 288}, []int{0, -48, -48, -48, -48, -48, -48, -96, -96, -96, -96, -96, -96, -144}},
		{caseOf(3, 2, 4), []int{48, 96}, []int{-48, -48}},
		{caseOf(3, 2, 4), []int{72, 72}, []int{-24, -72}},
		{caseOf(3, 2, 4), []int{0, 144}, []int{0, -96}},
		{caseOf(3, 4, 2), []int{143, 1}, []int{-1, -95}},
		{caseOf(5, 9, 0), []int{240, 0}, []int{0, 0}},
		{caseOf(5, 9, 0, 9), []int{120, 0, 120}, []int{0, 0, -120, -120, -120, -120}},
		// One person has no others.
		{caseOf(0, 0), []int{0}, nil},
		{caseOf(7, 12), []int{336}, nil},
		{caseOf(12, 12), []int{576}, nil},
		{caseOf(0, 0, 0), []int{0, 0}, []int{0, 0}},
		{caseOf(0, 0, 0, 0, 0), []int{0, 0, 0, 0}, make([]int, 14)},
		{caseOf(1, 12, 12, 12, 12), []int{12, 12, 12, 12}, []int{-12, -12, -12, -12, -24, -24, -24, -24, -24, -24, -36, -36, -36, -36}},
		{caseOf(1, 12, 12, 12, 12), []int{0, 0, 48, 0}, []int{0, 0, 0, 0, 0, 0, 0, -48, -48, -48, -48, -48, -48, -48}},
		{caseOf(48, 12, 12, 12, 12), []int{576, 576, 576, 576}, make([]int, 14)},
	}
}

func TestMissesByHand(t *testing.T) {
	for _, r := range missCases() {
		if x := impl.MissRow(r.of, r.awards); !slices.Equal(x, r.misses) {
			t.Fatal(r, x)
		}
	}
}

// checkMisses checks promise 34 of any awards of a case, and what is missed by them.
func checkMisses(t *testing.T, c impl.Case, awards []int) {
	t.Helper()
	misses := impl.MissRow(c, awards)
	if !slices.Equal(misses, missesByDefinition(c, awards)) {
		t.Fatal(c, awards, misses)
	}
	if len(misses) != twoTo(len(awards))-2 {
		t.Fatal("two fewer than sets", c, awards, misses)
	}
	if len(misses) > 0 && misses[0] > 0 {
		t.Fatal("somebody misses more than 0", c, awards, misses)
	}
	halves, _ := halvesOf(c)
	if x := impl.MissRow(c, halves); impl.RowOrder(x, misses) > 0 || slices.Compare(x, misses) > 0 {
		t.Fatal("halves come later", c, x, awards, misses)
	}
}

// Promise 34.
func TestHalvesAreTheLastWordOnMisses(t *testing.T) {
	d := draws(36)
	for _, c := range validCases() {
		checkMisses(t, c, impl.HalfAwards(c))
		checkMisses(t, c, impl.EvenAwards(c))
		checkMisses(t, c, impl.EvenLosses(c))
		for range 3 {
			checkMisses(t, c, drawnAwards(&d, c))
		}
	}
}

// Promise 34: of all awards of small cases.
func TestNoAwardsOfSmallCasesMissLessThanHalves(t *testing.T) {
	for _, s := range smallCases() {
		for _, awards := range s.rows {
			checkMisses(t, s.of, awards)
		}
	}
}

// With other places for the people as much is missed, and so it is by losses in the other case.
func TestNamesAndLossesChangeNoMisses(t *testing.T) {
	d := draws(37)
	for _, c := range validCases() {
		awards := drawnAwards(&d, c)
		misses := impl.MissRow(c, awards)
		named, namedAwards := drawnNames(&d, c, awards)
		if x := impl.MissRow(named, namedAwards); !slices.Equal(x, misses) {
			t.Fatal(c, awards, named, namedAwards, misses, x)
		}
		other, _ := impl.OtherCase(c)
		if x := impl.MissRow(other, impl.LossesOf(c, awards)); !slices.Equal(x, misses) {
			t.Fatal("losses", c, awards, misses, x)
		}
	}
}
