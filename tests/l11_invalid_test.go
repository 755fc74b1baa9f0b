package tests

import (
	"math"
	"slices"
	"testing"

	"loop.example/shortestates/impl"
)

// wantNoVisits checks of visits that are none what the functions of chapter 11 return for them, also at prices and for sets that would be some.
func wantNoVisits(t *testing.T, houses int, visits []int) {
	t.Helper()
	if impl.VisitsOk(houses, visits) {
		t.Fatal("ok", houses, visits)
	}
	for _, price := range []int{0, 1, 12, -1, 13, math.MaxInt} {
		wantNoShares(t, houses, visits, price)
	}
	for _, set := range []int{0, 1, 2, 3, 7, 15, 16, 31, 32, -1, 1 << 32, math.MaxInt, math.MinInt} {
		wantNoPassWorth(t, houses, visits, set)
	}
}

func wantNoShares(t *testing.T, houses int, visits []int, price int) {
	t.Helper()
	if x, means := impl.PassShares(houses, visits, price), impl.PassOrders(houses, visits, price); x != nil || means != nil {
		t.Fatal("shares", houses, visits, price, x, means)
	}
}

func wantNoPassWorth(t *testing.T, houses int, visits []int, set int) {
	t.Helper()
	if x := impl.PassWorth(houses, visits, set); x != -1 {
		t.Fatal("worth", houses, visits, set, x)
	}
}

// housesOutside returns numbers of houses that are too few or too many.
func housesOutside() []int {
	return []int{
		0, -1, -2, -4, -63, -64, -1 << 32, -1<<32 + 3, math.MinInt, math.MinInt + 1,
		5, 6, 8, 16, 31, 32, 33, 62, 63, 64, 65, 66, 127, 128, 255, 256, 257, 260, 1 << 32, 1<<32 + 3, 1 << 62, math.MaxInt - 1, math.MaxInt,
	}
}

func TestVisitsOfTooFewOrTooManyHouses(t *testing.T) {
	for _, houses := range housesOutside() {
		for _, visits := range [][]int{nil, {}, {0}, {1}, {15}, {16}, {31}, {-1}, {math.MaxInt}, {3, 1, 0, 7}, {0, 0}} {
			wantNoVisits(t, houses, visits)
		}
		for passes := 1; passes <= 8; passes++ {
			for _, set := range []int{0, 1, 15, 31} {
				wantNoVisits(t, houses, slices.Repeat([]int{set}, passes))
			}
		}
	}
}

func TestTooManyPasses(t *testing.T) {
	for houses := 1; houses <= 4; houses++ {
		for _, passes := range []int{7, 8, 9, 12, 13, 16, 64, 255, 256, 257, 262, 1000, 1 << 16} {
			for _, set := range []int{0, 1, twoTo(houses) - 1} {
				wantNoVisits(t, houses, slices.Repeat([]int{set}, passes))
			}
		}
		wantNoVisits(t, houses, zerosAnd(6, 1))
		wantNoVisits(t, houses, append([]int{1}, make([]int, 6)...))
	}
	wantNoVisits(t, 4, []int{1, 2, 3, 4, 5, 6, 7})
}

// Each pass in turn has a set of houses that are not there, of visits that are some otherwise.
func TestVisitsOfHousesThatAreNotThere(t *testing.T) {
	d := draws(68)
	for houses := 1; houses <= 4; houses++ {
		for passes := 1; passes <= 6; passes++ {
			for range 4 {
				visits := make([]int, passes)
				for pass := range visits {
					visits[pass] = d.below(twoTo(houses))
				}
				for pass, set := range visits {
					for _, spoiled := range setsOutside(houses) {
						visits[pass] = spoiled
						wantNoVisits(t, houses, visits)
					}
					visits[pass] = set
				}
				if !impl.VisitsOk(houses, visits) {
					t.Fatal("no visits", houses, visits)
				}
			}
			for _, set := range setsOutside(houses) {
				wantNoVisits(t, houses, slices.Repeat([]int{set}, passes))
			}
		}
	}
	wantNoVisits(t, 2, []int{-1, 4})
	wantNoVisits(t, 2, []int{4, -1})
	wantNoVisits(t, 2, []int{3, 1, 0, 7})
}

// pricesOutside returns amounts that are no prices, some of which would wrap around when they are multiplied.
func pricesOutside() []int {
	return append(bidsOutOfRange(), math.MinInt/48, math.MaxInt/48, math.MaxInt/48+1, 1<<59, -1<<60)
}

func TestPricesOutOfRange(t *testing.T) {
	for houses := 1; houses <= 4; houses++ {
		for _, visits := range fewVisits(houses) {
			for _, price := range pricesOutside() {
				wantNoShares(t, houses, visits, price)
			}
		}
		for _, price := range pricesOutside() {
			wantNoShares(t, houses, nil, price)
			wantNoShares(t, houses, make([]int, 6), price)
		}
	}
}

func TestSetsOfHousesThatAreNotThere(t *testing.T) {
	for houses := 1; houses <= 4; houses++ {
		for _, visits := range fewVisits(houses) {
			for _, set := range setsOutside(houses) {
				wantNoPassWorth(t, houses, visits, set)
			}
		}
		for _, set := range setsOutside(houses) {
			wantNoPassWorth(t, houses, nil, set)
			wantNoPassWorth(t, houses, make([]int, 6), set)
		}
	}
}

// visitsByDefinition tells anew, from the sentence of the document, whether visits are some.
func visitsByDefinition(houses int, visits []int) bool {
	ok := (houses == 1 || houses == 2 || houses == 3 || houses == 4) && len(visits) < 7
	for _, set := range visits {
		ok = ok && set > -1 && set < twoTo(houses)
	}
	return ok
}

// Drawn numbers, many of them of no use, are given to all functions.
func TestNoArgumentPanicsInChapter11(t *testing.T) {
	defer mustPanicNot(t, "chapter 11")
	outside := append(bidsOutOfRange(), housesOutside()...)
	numbers := append(outside, slices.Repeat(inOrder(16), 40)...)
	d := draws(69)
	some, priced := 0, 0
	for range 200000 {
		houses, visits := d.below(7)-1, drawnRow(&d, numbers)
		price, set := numbers[d.below(len(numbers))], numbers[d.below(len(numbers))]
		if d.below(10) == 0 {
			houses = numbers[d.below(len(numbers))]
		}
		if d.below(10) == 0 {
			visits = append(visits, drawnRow(&d, numbers)...)
		}
		if !visitsByDefinition(houses, visits) {
			wantNoVisits(t, houses, visits)
			wantNoShares(t, houses, visits, price)
			wantNoPassWorth(t, houses, visits, set)
			continue
		}
		some++
		want := -1
		if worths := worthsByPasses(houses, visits); set >= 0 && set < len(worths) {
			want = worths[set]
		}
		if x := impl.PassWorth(houses, visits, set); !impl.VisitsOk(houses, visits) || x != want {
			t.Fatal(houses, visits, set, x, want)
		}
		if price < 0 || price > 12 {
			wantNoShares(t, houses, visits, price)
			continue
		}
		priced++
		shares := sharesByPasses(houses, visits, price)
		if x, means := impl.PassShares(houses, visits, price), impl.PassOrders(houses, visits, price); !slices.Equal(x, shares) || !slices.Equal(means, shares) {
			t.Fatal(houses, visits, price, shares, x, means)
		}
	}
	if some < 20000 || some > 180000 || priced < 10000 || priced > some-1000 {
		t.Fatal("too few visits, or too few others", some, priced)
	}
}
