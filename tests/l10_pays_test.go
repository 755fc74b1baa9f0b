package tests

import (
	"slices"
	"testing"

	"loop.example/shortestates/impl"
)

// paysByDefinition tells anew, from the sentence of the document, whether a row can be paid by people with valid needs.
func paysByDefinition(needs, row []int) bool {
	if len(row) != len(needs) {
		return false
	}
	for _, number := range row {
		if number < 0 || number > 48*12 {
			return false
		}
	}
	for set, cost := range costsByDefinition(needs) {
		if members, _ := membersOf(set, len(needs)); togetherOf(row, members) > 48*cost {
			return false
		}
	}
	return total(row) == 48*slices.Max(needs)
}

// paidRow has a row, and whether it can be paid, reckoned by hand.
type paidRow struct {
	needs, row []int
	ok         bool
}

func paidRows() []paidRow {
	return append(edgesOfPayments(), []paidRow{
		{[]int{3, 6, 6}, []int{48, 120, 120}, true},
		{[]int{3, 6, 6}, []int{0, 144, 144}, true},
		{[]int{3, 6, 6}, []int{144, 144, 0}, true},
		{[]int{3, 6, 6}, []int{144, 0, 144}, true},
		{[]int{3, 6, 6}, []int{0, 288, 0}, true},
		{[]int{3, 6, 6}, []int{0, 0, 288}, true},
		{[]int{3, 6, 6}, []int{145, 143, 0}, false},
		{[]int{3, 6, 6}, []int{200, 44, 44}, false},
		{[]int{3, 6, 6}, []int{288, 0, 0}, false},
		{[]int{3, 6, 6}, []int{0, 289, -1}, false},
		{[]int{3, 6, 6}, []int{-1, 144, 145}, false},
		{[]int{3, 6, 6}, []int{48, 120, 119}, false},
		{[]int{3, 6, 6}, []int{48, 120, 121}, false},
		{[]int{3, 6, 6}, []int{0, 0, 0}, false},
		{[]int{3, 6, 6}, []int{144, 288, 288}, false},
		{[]int{3, 6, 6}, []int{1, 2, 3}, false},
		{[]int{3, 6, 6}, []int{0, 288}, false},
		{[]int{3, 6, 6}, []int{0, 144, 144, 0}, false},
		{[]int{2, 5}, []int{48, 192}, true},
		{[]int{2, 5}, []int{96, 144}, true},
		{[]int{2, 5}, []int{97, 143}, false},
		{[]int{2, 5}, []int{0, 240}, true},
		{[]int{2, 5}, []int{-1, 241}, false},
		{[]int{2, 5}, []int{96, 143}, false},
		{[]int{2, 5}, []int{96, 145}, false},
		{[]int{5, 2}, []int{144, 96}, true},
		{[]int{5, 2}, []int{96, 144}, false},
		// Two people together pay more than what they need, though none of them alone.
		{[]int{2, 4, 9}, []int{96, 96, 240}, true},
		{[]int{2, 4, 9}, []int{96, 97, 239}, false},
		{[]int{2, 4, 9}, []int{0, 192, 240}, true},
		{[]int{2, 4, 9}, []int{1, 192, 239}, false},
		{[]int{9, 2, 4}, []int{239, 1, 192}, false},
		{[]int{4, 9, 4}, []int{97, 239, 96}, false},
		{[]int{4, 9, 4}, []int{96, 240, 96}, true},
		// Three people together, though no two of them.
		{[]int{2, 4, 4, 9}, []int{48, 72, 72, 240}, true},
		{[]int{2, 4, 4, 9}, []int{48, 73, 72, 239}, false},
		{[]int{9, 4, 4, 2}, []int{239, 72, 73, 48}, false},
		{[]int{4, 9, 4, 4}, []int{64, 239, 64, 65}, false},
		{[]int{4, 9, 4, 4}, []int{64, 240, 64, 64}, true},
	}...)
}

func edgesOfPayments() []paidRow {
	return []paidRow{
		// One person alone.
		{[]int{0}, []int{0}, true},
		{[]int{0}, []int{1}, false},
		{[]int{0}, []int{-1}, false},
		{[]int{0}, []int{48}, false},
		{[]int{0}, nil, false},
		{[]int{0}, []int{0, 0}, false},
		{[]int{7}, []int{336}, true},
		{[]int{7}, []int{335}, false},
		{[]int{7}, []int{337}, false},
		{[]int{7}, []int{7}, false},
		{[]int{7}, []int{576}, false},
		{[]int{12}, []int{576}, true},
		{[]int{12}, []int{575}, false},
		{[]int{12}, []int{577}, false},
		// Needs of nothing.
		{[]int{0, 5}, []int{0, 240}, true},
		{[]int{0, 5}, []int{1, 239}, false},
		{[]int{5, 0}, []int{240, 0}, true},
		{[]int{5, 0}, []int{239, 1}, false},
		{[]int{0, 0}, []int{0, 0}, true},
		{[]int{0, 0}, []int{1, -1}, false},
		{[]int{0, 0, 0, 0}, []int{0, 0, 0, 0}, true},
		{[]int{0, 0, 0, 0}, []int{0, 0, 0, 1}, false},
		{[]int{0, 0, 0, 0}, []int{1, -1, 0, 0}, false},
		{[]int{0, 0, 0, 0}, []int{0, 0, 0}, false},
		// The greatest needs of all.
		{[]int{12, 12, 12, 12}, []int{144, 144, 144, 144}, true},
		{[]int{12, 12, 12, 12}, []int{143, 145, 144, 144}, true},
		{[]int{12, 12, 12, 12}, []int{143, 144, 144, 144}, false},
		{[]int{12, 12, 12, 12}, []int{145, 144, 144, 144}, false},
		{[]int{12, 12, 12, 12}, []int{576, 0, 0, 0}, true},
		{[]int{12, 12, 12, 12}, []int{0, 0, 0, 576}, true},
		{[]int{12, 12, 12, 12}, []int{577, 0, 0, -1}, false},
		{[]int{12, 12, 12, 12}, []int{-1, 0, 0, 577}, false},
		{[]int{12, 12, 12, 12}, []int{576, 576, 576, 576}, false},
		{[]int{12, 12, 12, 12}, []int{144, 144, 144, 144, 0}, false},
		{[]int{12, 12, 12, 12}, []int{192, 192, 192}, false},
	}
}

func TestPaymentsByHand(t *testing.T) {
	for _, r := range paidRows() {
		if x := impl.PaysOk(r.needs, r.row); x != r.ok || paysByDefinition(r.needs, r.row) != r.ok {
			t.Fatal(r, x)
		}
	}
}

// checkPays checks of any row whether it can be paid, and promise 61 if it can.
func checkPays(t *testing.T, needs, row []int) bool {
	t.Helper()
	ok := impl.PaysOk(needs, row)
	if want := paysByDefinition(needs, row); ok != want {
		t.Fatal(needs, row, ok, want)
	}
	if !ok {
		return false
	}
	for person, need := range needs {
		if row[person] > 48*need {
			t.Fatal("more than alone", needs, row, person)
		}
	}
	first := greatestOf(needs)
	others := slices.Delete(slices.Clone(needs), first, first+1)
	if row[first] < 48*(needs[first]-slices.Max(append(others, 0))) {
		t.Fatal("the greatest need", needs, row)
	}
	return true
}

// Promise 61: each row up to a step beyond the bounds is tried.
func TestNobodyPaysMoreThanAlone(t *testing.T) {
	for _, r := range []struct {
		people, step int
		amounts      []int
	}{
		{1, 1, inOrder(13)},
		{2, 1, []int{0, 1, 2, 3}},
		{3, 12, []int{0, 1, 2, 4}},
		{4, 24, []int{0, 1, 2}},
	} {
		for _, needs := range claimRows(r.people, r.amounts) {
			var amounts []int
			for amount := -r.step; amount <= 48*slices.Max(needs)+r.step; amount += r.step {
				amounts = append(amounts, amount)
			}
			paid := 0
			for _, row := range claimRows(r.people, amounts) {
				if checkPays(t, needs, row) {
					paid++
				}
			}
			if paid == 0 {
				t.Fatal("no rows", needs)
			}
		}
	}
}

// Promise 61: of what people pay who come in drawn orders, or the mean of it, and of this with some parts moved from one person to another.
func TestNobodyPaysMoreThanAloneInDrawnOrders(t *testing.T) {
	d := draws(61)
	paid, others := 0, 0
	for people := 1; people <= 4; people++ {
		orders := ordersOf(people)
		for _, needs := range allNeeds(people) {
			drawn := [][]int{orders[d.below(len(orders))], orders[d.below(len(orders))]}
			row, _ := meansByDefinition(needs, drawn)
			if !checkPays(t, needs, row) {
				t.Fatal("cannot be paid", needs, drawn, row)
			}
			moved := []int{1, 24, 48}[d.below(3)]
			row[d.below(people)] -= moved
			row[d.below(people)] += moved
			if checkPays(t, needs, row) {
				paid++
			} else {
				others++
			}
		}
	}
	if paid < 5000 || others < 5000 {
		t.Fatal("too few that can be paid, or too few others", paid, others)
	}
}

// Each set of people with the least need, in turn, pays all that it needs, and with one part more too much. Who has a greater need may pay less, and equal needs may pay different amounts.
func TestEachSetIsAsked(t *testing.T) {
	for _, r := range []struct {
		needs, row []int
		from, to   int
		ok         bool
	}{
		{[]int{1, 8, 8, 8}, []int{48, 112, 112, 112}, 1, 0, false},
		{[]int{8, 1, 8, 8}, []int{112, 48, 112, 112}, 0, 1, false},
		{[]int{8, 8, 1, 8}, []int{112, 112, 48, 112}, 0, 2, false},
		{[]int{8, 8, 8, 1}, []int{112, 112, 112, 48}, 0, 3, false},
		{[]int{1, 1, 8, 8}, []int{24, 24, 168, 168}, 2, 0, false},
		{[]int{1, 8, 1, 8}, []int{24, 168, 24, 168}, 1, 2, false},
		{[]int{1, 8, 8, 1}, []int{24, 168, 168, 24}, 1, 3, false},
		{[]int{8, 1, 1, 8}, []int{168, 24, 24, 168}, 0, 1, false},
		{[]int{8, 1, 8, 1}, []int{168, 24, 168, 24}, 0, 3, false},
		{[]int{8, 8, 1, 1}, []int{168, 168, 24, 24}, 0, 2, false},
		{[]int{1, 1, 1, 8}, []int{16, 16, 16, 336}, 3, 0, false},
		{[]int{1, 1, 8, 1}, []int{16, 16, 336, 16}, 2, 1, false},
		{[]int{1, 8, 1, 1}, []int{16, 336, 16, 16}, 1, 3, false},
		{[]int{8, 1, 1, 1}, []int{336, 16, 16, 16}, 0, 2, false},
		{[]int{8, 1, 1, 1}, []int{336, 16, 16, 16}, 3, 2, true},
		{[]int{8, 1, 8, 1}, []int{168, 24, 168, 24}, 3, 0, true},
		{[]int{8, 8, 8, 8}, []int{96, 96, 96, 96}, 3, 0, true},
	} {
		if !checkPays(t, r.needs, r.row) {
			t.Fatal("cannot be paid", r)
		}
		row := slices.Clone(r.row)
		row[r.from]--
		row[r.to]++
		if checkPays(t, r.needs, row) != r.ok {
			t.Fatal("one part moved", r, row)
		}
	}
}
