package tests

import (
	"math"
	"slices"
	"testing"

	"loop.example/shortestates/impl"
)

// likelyPayments returns rows that could be paid if the needs were some, so that only the needs can be the reason.
func likelyPayments(needs []int) [][]int {
	alone := make([]int, len(needs))
	if len(needs) > 0 {
		alone[greatestOf(needs)] = 48 * slices.Max(needs)
	}
	return [][]int{nil, {}, {0}, alone, make([]int, len(needs)), inParts(needs)}
}

// wantNoNeeds checks of needs that are none what the functions of chapter 10 return for them, and promise 57: in the other order they are none either.
func wantNoNeeds(t *testing.T, needs []int) {
	t.Helper()
	if impl.NeedsOk(needs) || impl.NeedsOk(fromBehind(needs)) {
		t.Fatal("ok", needs)
	}
	for _, set := range []int{0, 1, 2, 3, 7, 15, 16, 31, 32, -1, 1 << 32, math.MaxInt, math.MinInt} {
		if x := impl.RunwayCost(needs, set); x != -1 {
			t.Fatal("cost", needs, set, x)
		}
	}
	if x, row := impl.RunwayShares(needs), impl.RunwayOrders(needs); x != nil || row != nil {
		t.Fatal("shares", needs, x, row)
	}
	for _, row := range likelyPayments(needs) {
		wantNoPayments(t, needs, row)
	}
}

func wantNoPayments(t *testing.T, needs, row []int) {
	t.Helper()
	if impl.PaysOk(needs, row) {
		t.Fatal("pays", needs, row)
	}
}

func TestNeedsOfTooFewOrTooManyPeople(t *testing.T) {
	wantNoNeeds(t, nil)
	wantNoNeeds(t, []int{})
	for _, people := range []int{5, 6, 8, 16, 64, 255, 256, 257, 260, 1000, 1 << 16} {
		for _, need := range []int{0, 1, 12} {
			wantNoNeeds(t, slices.Repeat([]int{need}, people))
		}
	}
	wantNoNeeds(t, []int{1, 2, 3, 4, 5})
	wantNoNeeds(t, []int{0, 0, 0, 0, 12})
}

// Each need in turn is out of range, of needs that are some otherwise.
func TestNeedsOutOfRange(t *testing.T) {
	for people := 1; people <= 4; people++ {
		for _, needs := range claimRows(people, []int{0, 5, 12}) {
			for person, need := range needs {
				for _, spoiled := range bidsOutOfRange() {
					needs[person] = spoiled
					wantNoNeeds(t, needs)
				}
				needs[person] = need
			}
			if !impl.NeedsOk(needs) {
				t.Fatal("no needs", needs)
			}
		}
		for _, need := range bidsOutOfRange() {
			wantNoNeeds(t, slices.Repeat([]int{need}, people))
		}
	}
	wantNoNeeds(t, []int{-1, 13})
	wantNoNeeds(t, []int{13, -1})
	wantNoNeeds(t, []int{math.MinInt, math.MaxInt, 1})
}

func TestSetsOfPeopleWhoAreNotThere(t *testing.T) {
	for people := 1; people <= 4; people++ {
		for _, needs := range fewNeeds(people) {
			for _, set := range setsOutside(people) {
				if x := impl.RunwayCost(needs, set); x != -1 {
					t.Fatal(needs, set, x)
				}
			}
		}
	}
}

// Rows have numbers too few or too many. Many of them have the right sum.
func TestTooFewOrTooManyPayments(t *testing.T) {
	for people := 1; people <= 4; people++ {
		for _, needs := range fewNeeds(people) {
			shares, greatest := impl.RunwayShares(needs), 48*slices.Max(needs)
			for _, row := range [][]int{nil, {}, shares[1:], shares[:people-1], append(slices.Clone(shares), 0), zerosAnd(1, shares...), zerosAnd(1000, shares...)} {
				wantNoPayments(t, needs, row)
			}
			for numbers := range 8 {
				if numbers == people {
					continue
				}
				wantNoPayments(t, needs, make([]int, numbers))
				for place := range numbers {
					row := make([]int, numbers)
					row[place] = greatest
					wantNoPayments(t, needs, row)
				}
			}
		}
	}
}

// paymentsOutOfRange returns amounts that nobody may pay.
func paymentsOutOfRange() []int {
	return []int{
		-1, -2, -48, -576, -1 << 32, -1<<32 + 1, -1 << 62, math.MinInt, math.MinInt + 1,
		577, 578, 1152, 1 << 32, 1<<32 + 48, 1 << 62, math.MaxInt - 1, math.MaxInt,
	}
}

// Each payment in turn is out of range. The sum is wrong then, or another payment makes it right, some of them just if sums wrap around.
func TestPaymentsOutOfRange(t *testing.T) {
	for people := 1; people <= 4; people++ {
		for _, needs := range fewNeeds(people) {
			shares := impl.RunwayShares(needs)
			for person, share := range shares {
				for _, spoiled := range paymentsOutOfRange() {
					row := slices.Clone(shares)
					row[person] = spoiled
					wantNoPayments(t, needs, row)
					for other := range people {
						if other != person {
							row = slices.Clone(shares)
							row[person] = spoiled
							row[other] += share - spoiled
							wantNoPayments(t, needs, row)
						}
					}
				}
			}
			for _, spoiled := range paymentsOutOfRange() {
				wantNoPayments(t, needs, slices.Repeat([]int{spoiled}, people))
			}
		}
	}
}

// Payments whose sum wraps around to what is to be paid.
func TestPaymentsThatWrapAround(t *testing.T) {
	for _, r := range []struct{ needs, row []int }{
		{[]int{0, 0}, []int{math.MinInt, math.MinInt}},
		{[]int{0, 0, 0}, []int{math.MinInt, 0, math.MinInt}},
		{[]int{3, 6}, []int{math.MinInt, math.MinInt + 288}},
		{[]int{3, 6, 6}, []int{math.MinInt + 48, math.MinInt + 120, 120}},
		{[]int{12, 12, 12, 12}, []int{1 << 62, 1 << 62, 1 << 62, 1<<62 + 576}},
		{[]int{12, 12, 12, 12}, []int{-1 << 62, -1 << 62, -1 << 62, -1<<62 + 576}},
		{[]int{12, 12, 12}, []int{math.MaxInt, math.MaxInt, 578}},
		{[]int{6, 6}, []int{math.MaxInt, math.MinInt + 289}},
	} {
		if total(r.row) != 48*slices.Max(r.needs) {
			t.Fatal("does not wrap around", r)
		}
		wantNoPayments(t, r.needs, r.row)
	}
}

// Payments that are together too little or too much, though nobody pays too much.
func TestPaymentsTogetherTooLittleOrTooMuch(t *testing.T) {
	for people := 1; people <= 4; people++ {
		for _, needs := range fewNeeds(people) {
			shares := impl.RunwayShares(needs)
			for person := range shares {
				for _, more := range []int{-48, -1, 1, 48} {
					row := slices.Clone(shares)
					row[person] += more
					wantNoPayments(t, needs, row)
				}
			}
			if slices.Max(needs) > 0 {
				wantNoPayments(t, needs, make([]int, people))
				wantNoPayments(t, needs, needs)
			}
		}
	}
}

// needsByDefinition tells anew, from the sentence of the document, whether needs are some.
func needsByDefinition(needs []int) bool {
	ok := len(needs) == 1 || len(needs) == 2 || len(needs) == 3 || len(needs) == 4
	for _, need := range needs {
		ok = ok && need > -1 && need < 13
	}
	return ok
}

// Drawn numbers, many of them of no use, are given to all functions. In one of four rows the greatest need is paid by one person.
func TestNoArgumentPanicsInChapter10(t *testing.T) {
	defer mustPanicNot(t, "chapter 10")
	numbers := append(inOrder(13), bidsOutOfRange()[:9]...)
	numbers = append(numbers, slices.Repeat(inOrder(13), 6)...)
	numbers = append(numbers, 13, 24, 48, 48, 96, 144, 288, 576, 577, 1<<32, 1<<62, math.MaxInt)
	d := draws(62)
	some, paid := 0, 0
	for range 200000 {
		needs, row, set := drawnRow(&d, numbers), drawnRow(&d, numbers), numbers[d.below(len(numbers))]
		if d.below(4) == 0 {
			row = likelyPayments(needs)[3]
		}
		if !needsByDefinition(needs) {
			wantNoNeeds(t, needs)
			wantNoPayments(t, needs, row)
			continue
		}
		some++
		want := -1
		if costs := costsByDefinition(needs); set >= 0 && set < len(costs) {
			want = costs[set]
		}
		if x := impl.RunwayCost(needs, set); !impl.NeedsOk(needs) || x != want {
			t.Fatal(needs, set, x, want)
		}
		shares := sharesByUnits(needs)
		if x, means := impl.RunwayShares(needs), impl.RunwayOrders(needs); !slices.Equal(x, shares) || !slices.Equal(means, shares) {
			t.Fatal(needs, shares, x, means)
		}
		if checkPays(t, needs, row) {
			paid++
		}
	}
	if some < 20000 || some > 180000 || paid < 10000 {
		t.Fatal("too few needs, or too few others, or too few payments", some, paid)
	}
}
