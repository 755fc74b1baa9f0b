package tests

import (
	"slices"
	"testing"

	"loop.example/shortestates/impl"
)

// arrivalRowsOf calls all functions of chapter 7 that return rows, and returns these.
func arrivalRowsOf(c impl.Case, order []int) [][]int {
	return [][]int{impl.OrderAwards(c, order), impl.ArrivalAwards(c), impl.GameShares(c)}
}

// bringsOfAll returns what each person of a value brings to each set, and to some numbers that tell no set.
func bringsOfAll(c impl.Case) []int {
	var brings []int
	for person := -1; person <= 4; person++ {
		for set := -1; set <= 16; set++ {
			brings = append(brings, impl.BringsOf(c, person, set))
		}
	}
	return brings
}

// Spoiled results change neither arguments nor other results, and arguments that change later change no results.
func TestArrivalsAreNewMemory(t *testing.T) {
	for _, r := range orderCases() {
		claims, memoryOfClaims := guarded(r.of.Claims...)
		order, memoryOfOrder := guarded(r.order...)
		c := caseOf(r.of.Estate, claims...)
		memories := [][]int{memoryOfClaims, memoryOfOrder}
		before, brings := cloneRows(memories), bringsOfAll(c)
		if !slices.Equal(bringsOfAll(c), brings) || !slices.Equal(memoryOfClaims, before[0]) {
			t.Fatal("an argument is written to", r, memories)
		}
		checkNewMemory(t, r, len(claims), memories, func() [][]int { return arrivalRowsOf(c, order) })
	}
}

// Nothing is written to orders that are none either, also behind their ends.
func TestOrdersThatAreNoneStay(t *testing.T) {
	for _, r := range invalidOrders() {
		for _, row := range r.rows {
			order, memory := guarded(row...)
			before := slices.Clone(memory)
			if x := impl.OrderAwards(r.of, order); x != nil || !slices.Equal(memory, before) {
				t.Fatal(r.of, before, memory, x)
			}
		}
	}
}

func TestArgumentsOfChapter7Stay(t *testing.T) {
	checkArgumentsStay(t, 43, func(c impl.Case, awards []int) any {
		order := inOrder(len(c.Claims))
		return []any{arrivalRowsOf(c, order), arrivalRowsOf(c, awards), bringsOfAll(c)}
	})
}
