package tests

import (
	"slices"
	"testing"

	"loop.example/shortestates/impl"
)

// evenRowsOf calls all functions of chapter 2 that return rows, and returns these.
func evenRowsOf(c impl.Case, claims []int, estate int) [][]int {
	row, _ := impl.EvenRow(claims, estate)
	return [][]int{impl.EvenAwards(c), impl.EvenLosses(c), row}
}

// Spoiled results change neither arguments nor other results, and arguments that change later change no results.
func TestEvenRowsAreNewMemory(t *testing.T) {
	for _, r := range []struct {
		of     impl.Case
		estate int
	}{
		{caseOf(9, 6, 2, 4), 6}, {caseOf(0, 0), 0}, {caseOf(0, 6, 2, 4), 0}, {caseOf(12, 6, 2, 4), 12},
		{caseOf(48, 12, 12, 12, 12), 48}, {caseOf(6, 0, 6, 0, 6), 6}, {caseOf(7, 12), 7},
	} {
		caseClaims, memoryOfCase := guarded(r.of.Claims...)
		rowClaims, memoryOfRow := guarded(r.of.Claims...)
		c := caseOf(r.of.Estate, caseClaims...)
		memories := [][]int{memoryOfCase, memoryOfRow}
		checkNewMemory(t, r, len(caseClaims), memories, func() [][]int { return evenRowsOf(c, rowClaims, r.estate) })
	}
}

// Rows that are compared in order stay in the order in which they were.
func TestComparedRowsStay(t *testing.T) {
	for _, r := range []struct{ a, b []int }{
		{[]int{3, 1, 2}, []int{5, 0, 1}}, {[]int{4, 3, 2, 1}, []int{10, 0, 0, 0}}, {[]int{2, 1}, []int{1, 2, 3}},
		{[]int{5, 4, 3, 2, 1}, []int{5, 4, 3, 2, 1}}, {[]int{9}, []int{8}}, {[]int{2, 0}, []int{9, -1}},
	} {
		a, memoryOfFirst := guarded(r.a...)
		b, memoryOfSecond := guarded(r.b...)
		before := cloneRows([][]int{memoryOfFirst, memoryOfSecond})
		first := impl.MoreEven(a, b)
		if !slices.Equal(memoryOfFirst, before[0]) || !slices.Equal(memoryOfSecond, before[1]) {
			t.Fatal("an argument is written to", r, memoryOfFirst, memoryOfSecond)
		}
		if impl.MoreEven(a, b) != first || impl.MoreEven(r.a, r.b) != first {
			t.Fatal("called again", r)
		}
	}
	row, memory := guarded(3, 1, 2)
	before := slices.Clone(memory)
	if !impl.MoreEven(row, row) || !slices.Equal(memory, before) {
		t.Fatal("a row with itself", memory)
	}
}

// No call writes to its arguments, whatever they are, nor returns anything else when called again.
func TestArgumentsOfChapter2Stay(t *testing.T) {
	for _, c := range append(validCases(), invalidCases()...) {
		before := copyOf(c)
		claims := slices.Clone(c.Claims)
		first := evenRowsOf(c, claims, c.Estate)
		level, lossLevel := impl.EvenLevel(c), impl.LossLevel(c)
		second := evenRowsOf(c, claims, c.Estate)
		if !sameCase(c, before) || !slices.Equal(claims, before.Claims) {
			t.Fatal("an argument is written to", before, c, claims)
		}
		for i := range first {
			if !slices.Equal(first[i], second[i]) {
				t.Fatal("called again", c, first[i], second[i])
			}
		}
		if level != impl.EvenLevel(c) || lossLevel != impl.LossLevel(c) {
			t.Fatal("called again", c)
		}
	}
}
