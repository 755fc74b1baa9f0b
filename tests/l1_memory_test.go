package tests

import (
	"math"
	"slices"
	"testing"

	"loop.example/shortestates/impl"
)

// guarded returns a row with spare capacity behind it, and all of the memory, which holds a mark there.
func guarded(row ...int) ([]int, []int) {
	memory := append(slices.Clone(row), -77, -77, -77)
	return memory[:len(row)], memory
}

// spoil writes to all the memory of a row, also behind its end.
func spoil(row []int) {
	row = row[:cap(row)]
	for i := range row {
		row[i] = math.MinInt
	}
}

// rowsOf calls all functions of chapter 1 that return rows, and returns these.
func rowsOf(c impl.Case, order, awards []int) [][]int {
	other, _ := impl.OtherCase(c)
	cut, _ := impl.CutCase(c)
	left, _ := impl.RestCase(c)
	named, _ := impl.NamedCase(c, order)
	return [][]int{other.Claims, cut.Claims, left.Claims, named.Claims, impl.RightsOf(c), impl.LossesOf(c, awards)}
}

func cloneRows(rows [][]int) [][]int {
	var copies [][]int
	for _, row := range rows {
		copies = append(copies, slices.Clone(row))
	}
	return copies
}

// Spoiled results change neither arguments nor other results, and arguments that change later change no results.
func TestResultsAreNewMemory(t *testing.T) {
	for _, r := range []struct {
		of            impl.Case
		order, awards []int
	}{
		{caseOf(9, 2, 4, 6), []int{0, 1, 2}, []int{48, 144, 240}},
		{caseOf(0, 0), []int{0}, []int{0}},
		{caseOf(0, 2, 4, 6), []int{1, 2, 0}, []int{0, 0, 0}},
		{caseOf(12, 2, 4, 6), []int{0, 2, 1}, []int{96, 192, 288}},
		{caseOf(48, 12, 12, 12, 12), []int{0, 1, 2, 3}, []int{576, 576, 576, 576}},
	} {
		claims, memoryOfClaims := guarded(r.of.Claims...)
		order, memoryOfOrder := guarded(r.order...)
		awards, memoryOfAwards := guarded(r.awards...)
		c := caseOf(r.of.Estate, claims...)
		memories := [][]int{memoryOfClaims, memoryOfOrder, memoryOfAwards}
		checkNewMemory(t, r, len(claims), memories, func() [][]int { return rowsOf(c, order, awards) })
	}
}

// No call writes to its arguments, whatever they are, nor returns anything else when called again.
func TestArgumentsStay(t *testing.T) {
	d := draws(3)
	for _, c := range append(validCases(), invalidCases()...) {
		before := copyOf(c)
		order := []int{d.below(3), d.below(3), d.below(3)}
		awards := []int{48 * d.below(3), 48 * d.below(3), 48 * d.below(3)}
		orderBefore, awardsBefore := slices.Clone(order), slices.Clone(awards)
		first := rowsOf(c, order, awards)
		ok, owed, fits := impl.CaseOk(c), impl.OwedOf(c), impl.AwardsOk(c, awards)
		second := rowsOf(c, order, awards)
		if !sameCase(c, before) || !slices.Equal(order, orderBefore) || !slices.Equal(awards, awardsBefore) {
			t.Fatal("an argument is written to", before, c)
		}
		for i := range first {
			if !slices.Equal(first[i], second[i]) {
				t.Fatal("called again", c, first[i], second[i])
			}
		}
		if ok != impl.CaseOk(c) || owed != impl.OwedOf(c) || fits != impl.AwardsOk(c, awards) {
			t.Fatal("called again", c)
		}
	}
}
