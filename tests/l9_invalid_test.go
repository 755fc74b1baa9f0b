package tests

import (
	"math"
	"slices"
	"testing"

	"loop.example/shortestates/impl"
)

// wantNoBids checks of bids that are none what the functions of chapter 9 return for them, and promise 50: with the people in the other order they are none either.
func wantNoBids(t *testing.T, bids [][]int) {
	t.Helper()
	if impl.BidsOk(bids) || impl.BidsOk(fromBehind(bids)) {
		t.Fatal("ok", bids)
	}
	x := bidsToldBy(bids)
	if x.takers != nil || x.fair != nil || x.surplus != -1 || x.paid != nil || x.ends != nil {
		t.Fatal(bids, x)
	}
}

// alikeBids returns bids of so many people for so many things, all of one amount.
func alikeBids(people, things, bid int) [][]int {
	var bids [][]int
	for range people {
		bids = append(bids, slices.Repeat([]int{bid}, things))
	}
	return bids
}

func TestBidsOfTooFewOrTooManyPeople(t *testing.T) {
	for _, people := range []int{0, 1, 5, 6, 8, 16, 255, 256, 258, 1000, 1 << 16} {
		for things := range 6 {
			for _, bid := range []int{0, 1, 12} {
				wantNoBids(t, alikeBids(people, things, bid))
			}
		}
	}
	wantNoBids(t, nil)
	wantNoBids(t, [][]int{})
	wantNoBids(t, [][]int{nil})
	wantNoBids(t, [][]int{nil, nil, nil, nil, nil})
}

func TestBidsForTooManyThings(t *testing.T) {
	for people := range 6 {
		for _, things := range []int{5, 6, 8, 16, 255, 256, 257, 260, 1000, 1 << 16} {
			for _, bid := range []int{0, 1, 12} {
				wantNoBids(t, alikeBids(people, things, bid))
			}
		}
	}
}

// Each person in turn bids for another number of things than all others.
func TestBidsForDifferentNumbersOfThings(t *testing.T) {
	for people := 2; people <= 4; people++ {
		for odd := range people {
			for things := range 6 {
				for _, others := range []int{0, 1, 2, 3, 4, 5, 6, 256, 260} {
					if others == things {
						continue
					}
					for _, bid := range []int{0, 1, 12} {
						bids := alikeBids(people, things, bid)
						bids[odd] = slices.Repeat([]int{bid}, others)
						wantNoBids(t, bids)
					}
				}
			}
		}
	}
	for _, bids := range [][][]int{
		{{}, {1}}, {{1}, {}}, {nil, {0}}, {{0}, nil}, {{1, 2}, {1}}, {{1}, {1, 2}}, {{1, 2, 3, 4}, {1, 2, 3, 4, 5}},
		{{1}, {1}, {1, 2}}, {{1}, {1, 2}, {1}}, {{1, 2}, {1}, {1}}, {{1, 2}, {1, 2}, {1, 2}, {1}}, {{1}, {1, 2}, {1, 2, 3}, {1, 2, 3, 4}},
		{{1, 2}, {1, 2, 3}, {1}}, {{1, 2}, {1, 2}, nil, {1, 2}}, {{0, 0}, {0, 0, 0, 0}}, {{6, 2}, {4, 8}, {}},
	} {
		wantNoBids(t, bids)
	}
}

// bidsOutOfRange returns amounts that nobody may bid, some of which would wrap around when they are multiplied or summed.
func bidsOutOfRange() []int {
	return []int{
		-1, -2, -12, -48, -1 << 32, -1<<32 + 1, -1 << 62, math.MinInt, math.MinInt + 1,
		13, 14, 48, 255, 256, 260, 576, 1 << 32, 1<<32 + 5, 1 << 60, 1 << 62, math.MaxInt - 1, math.MaxInt,
	}
}

// Each bid in turn is out of range, of bids that are some otherwise.
func TestBidsOutOfRange(t *testing.T) {
	d := draws(56)
	for _, bids := range drawnBidsOfAll(&d, 5) {
		for person, own := range bids {
			for thing, bid := range own {
				for _, spoiled := range bidsOutOfRange() {
					bids[person][thing] = spoiled
					wantNoBids(t, bids)
				}
				bids[person][thing] = bid
			}
		}
		checkBidsOk(t, bids)
	}
	for _, bid := range bidsOutOfRange() {
		for people := 2; people <= 4; people++ {
			for things := 1; things <= 4; things++ {
				wantNoBids(t, alikeBids(people, things, bid))
			}
		}
	}
}

// Bids out of range whose sums would be in range.
func TestBidsOutOfRangeInRangeTogether(t *testing.T) {
	for _, bids := range [][][]int{
		{{-1, 13}, {4, 8}}, {{4, 8}, {13, -1}}, {{14, -2, 0, 0}, {3, 3, 3, 3}}, {{-6, 6}, {6, -6}}, {{13}, {-1}}, {{-1}, {13}},
		{{1 << 62, 1 << 62, 1 << 62, 1 << 62}, {0, 0, 0, 0}}, {{math.MinInt, math.MinInt}, {1, 1}},
		{{math.MaxInt, math.MinInt, 1}, {0, 0, 0}}, {{1<<32 + 1, -1 << 32}, {1, 1}}, {{-3, 3}, {-3, 3}, {3, -3}},
	} {
		wantNoBids(t, bids)
	}
}

// bidsOkByDefinition tells anew, from the sentence of the document, whether bids are some.
func bidsOkByDefinition(bids [][]int) bool {
	ok := len(bids) == 2 || len(bids) == 3 || len(bids) == 4
	for _, own := range bids {
		ok = ok && len(own) == len(bids[0]) && len(own) < 5
		for _, bid := range own {
			ok = ok && bid > -1 && bid < 13
		}
	}
	return ok
}

// drawnRows returns up to 5 rows of numbers, each drawn out of some, mostly with as many numbers.
func drawnRows(d *draws, numbers []int) [][]int {
	rows := make([][]int, d.below(6))
	alike := len(drawnRow(d, numbers))
	for i := range rows {
		rows[i] = drawnRow(d, numbers)
		for d.below(20) > 0 && len(rows[i]) != alike {
			rows[i] = drawnRow(d, numbers)
		}
	}
	return rows
}

// Drawn rows, many of them of no use, are given to all functions.
func TestNoArgumentPanicsInChapter9(t *testing.T) {
	defer mustPanicNot(t, "chapter 9")
	numbers := append(bidsOutOfRange()[:9], inOrder(13)...)
	numbers = append(numbers, slices.Repeat(inOrder(13), 20)...)
	numbers = append(numbers, 13, 48, 1<<32, 1<<62, math.MaxInt)
	d := draws(57)
	some := 0
	for range 200000 {
		bids := drawnRows(&d, numbers)
		if !bidsOkByDefinition(bids) {
			wantNoBids(t, bids)
			continue
		}
		some++
		checkBidsOk(t, bids)
		if x, want := bidsToldBy(bids), bidsByDefinition(bids); !sameTold(x, want) {
			t.Fatal(bids, x, want)
		}
	}
	if some < 10000 || some > 190000 {
		t.Fatal("too few bids, or too few others", some)
	}
}
