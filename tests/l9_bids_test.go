package tests

import (
	"slices"
	"testing"

	"loop.example/shortestates/impl"
)

// bidsTold has what the functions of chapter 9 tell of bids.
type bidsTold struct {
	takers, fair []int
	surplus      int
	paid, ends   []int
}

// bidsToldBy asks all functions of chapter 9 but BidsOk.
func bidsToldBy(bids [][]int) bidsTold {
	return bidsTold{impl.TakersOf(bids), impl.FairRow(bids), impl.SurplusOf(bids), impl.PaidRow(bids), impl.EndRow(bids)}
}

func sameTold(a, b bidsTold) bool {
	return a.surplus == b.surplus && slices.Equal(a.takers, b.takers) &&
		slices.Equal(a.fair, b.fair) && slices.Equal(a.paid, b.paid) && slices.Equal(a.ends, b.ends)
}

// bidsFor returns the bids of all people for one thing.
func bidsFor(bids [][]int, thing int) []int {
	var column []int
	for _, own := range bids {
		column = append(column, own[thing])
	}
	return column
}

// bidsByDefinition tells anew, from the sentences of the document, what there is to tell of valid bids. It goes thing by thing: who takes one pays its bid, each one is paid the same part of the own bid out of that, and of the rest all are paid the same.
func bidsByDefinition(bids [][]int) bidsTold {
	people := len(bids)
	told := bidsTold{nil, make([]int, people), 0, make([]int, people), make([]int, people)}
	for thing := range bids[0] {
		column := bidsFor(bids, thing)
		greatest := slices.Max(column)
		taker := slices.Index(column, greatest)
		told.takers = append(told.takers, taker)
		left := 48*greatest - 48/people*total(column)
		told.surplus += left
		for person, bid := range column {
			told.fair[person] += 48 / people * bid
			told.paid[person] += 48*bid + left
			told.ends[person] += 48*bid + left
		}
		told.paid[taker] -= people * 48 * greatest
	}
	return told
}

// bidCase has bids, and what is to be told of them, reckoned by hand.
type bidCase struct {
	bids [][]int
	told bidsTold
}

func bidCases() []bidCase {
	return append(edgesOfBids(), []bidCase{
		{[][]int{{6, 2}, {4, 8}}, bidsTold{[]int{0, 1}, []int{192, 288}, 192, []int{0, 0}, []int{576, 768}}},
		{[][]int{{4, 8}, {6, 2}}, bidsTold{[]int{1, 0}, []int{288, 192}, 192, []int{0, 0}, []int{768, 576}}},
		{[][]int{{6}, {2}}, bidsTold{[]int{0}, []int{144, 48}, 96, []int{-192, 192}, []int{384, 192}}},
		{[][]int{{2}, {6}}, bidsTold{[]int{1}, []int{48, 144}, 96, []int{192, -192}, []int{192, 384}}},
		// Fair shares that are no whole units, of two and of three people.
		{[][]int{{1}, {0}}, bidsTold{[]int{0}, []int{24, 0}, 24, []int{-24, 24}, []int{72, 24}}},
		{[][]int{{1}, {0}, {0}}, bidsTold{[]int{0}, []int{16, 0, 0}, 32, []int{-64, 32, 32}, []int{80, 32, 32}}},
		{[][]int{{1, 1}, {1, 0}, {0, 1}}, bidsTold{[]int{0, 0}, []int{32, 16, 16}, 32, []int{-160, 80, 80}, []int{128, 80, 80}}},
		{[][]int{{1, 2}, {0, 1}, {3, 4}}, bidsTold{[]int{2, 2}, []int{48, 16, 112}, 160, []int{304, 208, -512}, []int{304, 208, 496}}},
		// Several things, and equal bids among others.
		{[][]int{{3, 0, 12, 1}, {3, 1, 11, 1}}, bidsTold{[]int{0, 1, 0, 0}, []int{384, 384}, 48, []int{-720, 720}, []int{816, 816}}},
		{[][]int{{4, 0, 9}, {7, 3, 2}, {1, 12, 9}, {7, 5, 0}}, bidsTold{
			[]int{1, 2, 0}, []int{156, 144, 264, 144}, 636, []int{-468, -132, -612, 1212}, []int{1260, 1212, 1692, 1212},
		}},
	}...)
}

func edgesOfBids() []bidCase {
	return []bidCase{
		// No things.
		{[][]int{{}, {}}, bidsTold{nil, []int{0, 0}, 0, []int{0, 0}, []int{0, 0}}},
		{[][]int{nil, {}, nil}, bidsTold{nil, []int{0, 0, 0}, 0, []int{0, 0, 0}, []int{0, 0, 0}}},
		{[][]int{nil, nil, nil, nil}, bidsTold{nil, []int{0, 0, 0, 0}, 0, []int{0, 0, 0, 0}, []int{0, 0, 0, 0}}},
		// Equal bids, by the first people, by the last ones, by the first one and the last one, and by all.
		{[][]int{{5}, {5}, {2}}, bidsTold{[]int{0}, []int{80, 80, 32}, 48, []int{-432, 288, 144}, []int{288, 288, 144}}},
		{[][]int{{2}, {5}, {5}}, bidsTold{[]int{1}, []int{32, 80, 80}, 48, []int{144, -432, 288}, []int{144, 288, 288}}},
		{[][]int{{5}, {2}, {5}}, bidsTold{[]int{0}, []int{80, 32, 80}, 48, []int{-432, 144, 288}, []int{288, 144, 288}}},
		{[][]int{{5}, {5}, {5}}, bidsTold{[]int{0}, []int{80, 80, 80}, 0, []int{-480, 240, 240}, []int{240, 240, 240}}},
		{[][]int{{3, 7}, {3, 7}, {3, 7}, {3, 7}}, bidsTold{
			[]int{0, 0}, []int{120, 120, 120, 120}, 0, []int{-1440, 480, 480, 480}, []int{480, 480, 480, 480},
		}},
		// Bids of 0 and of MaxClaim, and MaxThings things.
		{[][]int{{0}, {0}}, bidsTold{[]int{0}, []int{0, 0}, 0, []int{0, 0}, []int{0, 0}}},
		{[][]int{{12}, {12}}, bidsTold{[]int{0}, []int{288, 288}, 0, []int{-576, 576}, []int{576, 576}}},
		{[][]int{{0, 0, 0, 0}, {0, 0, 0, 0}, {0, 0, 0, 0}}, bidsTold{[]int{0, 0, 0, 0}, []int{0, 0, 0}, 0, []int{0, 0, 0}, []int{0, 0, 0}}},
		{[][]int{{12, 12, 12, 12}, {12, 12, 12, 12}, {12, 12, 12, 12}, {12, 12, 12, 12}}, bidsTold{
			[]int{0, 0, 0, 0}, []int{576, 576, 576, 576}, 0, []int{-6912, 2304, 2304, 2304}, []int{2304, 2304, 2304, 2304},
		}},
		// One person takes all things, and the others take none.
		{[][]int{{12, 12, 12, 12}, {0, 0, 0, 0}}, bidsTold{[]int{0, 0, 0, 0}, []int{1152, 0}, 1152, []int{-1152, 1152}, []int{3456, 1152}}},
		{[][]int{{0, 0, 0, 0}, {0, 0, 0, 0}, {0, 0, 0, 0}, {12, 12, 12, 12}}, bidsTold{
			[]int{3, 3, 3, 3}, []int{0, 0, 0, 576}, 1728, []int{1728, 1728, 1728, -5184}, []int{1728, 1728, 1728, 4032},
		}},
		// Each person takes one thing.
		{[][]int{{12, 0, 0, 0}, {0, 12, 0, 0}, {0, 0, 12, 0}, {0, 0, 0, 12}}, bidsTold{
			[]int{0, 1, 2, 3}, []int{144, 144, 144, 144}, 1728, []int{0, 0, 0, 0}, []int{2304, 2304, 2304, 2304},
		}},
	}
}

func TestBidsByHand(t *testing.T) {
	for _, r := range bidCases() {
		if !impl.BidsOk(r.bids) {
			t.Fatal("no bids", r.bids)
		}
		if x := bidsToldBy(r.bids); !sameTold(x, r.told) {
			t.Fatal(r, x)
		}
	}
}

func TestConstantOfThings(t *testing.T) {
	if impl.MaxThings != 4 {
		t.Fatal(impl.MaxThings)
	}
}

// allBids returns all bids of so many people for so many things out of some amounts.
func allBids(people, things int, amounts []int) [][][]int {
	var all [][][]int
	for _, row := range claimRows(people*things, amounts) {
		var bids [][]int
		for person := range people {
			bids = append(bids, row[person*things:(person+1)*things])
		}
		all = append(all, bids)
	}
	return all
}

// validBids returns all bids for nothing, for one thing, and of two people for two, and for more things those of a few amounts, edges among them.
func validBids() [][][]int {
	each := inOrder(impl.MaxClaim + 1)
	amounts := [][][]int{
		{each, each, each, {0, 1, 6, 12}, {0, 5, 12}},
		{each, each, {0, 1, 2, 12}, {0, 7, 12}, {5, 6}},
		{each, each, {0, 4, 12}, {0, 12}, {0, 7}},
	}
	var all [][][]int
	for more, some := range amounts {
		for things, few := range some {
			all = append(all, allBids(more+2, things, few)...)
		}
	}
	return all
}

// drawnBids returns drawn bids of so many people for so many things, with one amount for each thing that several people may bid.
func drawnBids(d *draws, people, things int) [][]int {
	bids := make([][]int, people)
	for range things {
		alike := d.below(13)
		for person := range bids {
			bid := alike
			if d.below(2) == 0 {
				bid = d.below(13)
			}
			bids[person] = append(bids[person], bid)
		}
	}
	return bids
}

// drawnBidsOfAll returns some drawn bids of each number of people for each number of things.
func drawnBidsOfAll(d *draws, some int) [][][]int {
	var all [][][]int
	for people := 2; people <= 4; people++ {
		for things := 0; things <= 4; things++ {
			for range some {
				all = append(all, drawnBids(d, people, things))
			}
		}
	}
	return all
}

// Promise 50, of people without things.
func TestNoThingsCanBeBidFor(t *testing.T) {
	for people := range 7 {
		for _, none := range [][]int{nil, {}} {
			if x := impl.BidsOk(slices.Repeat([][]int{none}, people)); x != (people >= 2 && people <= 4) {
				t.Fatal(people, x)
			}
		}
	}
	if !impl.BidsOk([][]int{nil, {}}) || !impl.BidsOk([][]int{{}, nil}) {
		t.Fatal("no bids")
	}
}

// checkBidsOk checks promise 50 of bids that are some: so they are with the people in any other order, and one person alone bids in vain.
func checkBidsOk(t *testing.T, bids [][]int) {
	t.Helper()
	if !impl.BidsOk(bids) || !impl.BidsOk(fromBehind(bids)) {
		t.Fatal("no bids", bids)
	}
	for _, own := range bids {
		if impl.BidsOk([][]int{own}) {
			t.Fatal("alone", own)
		}
	}
}

// Promise 50.
func TestBidsAreSomeInAnyOrder(t *testing.T) {
	for _, bids := range validBids() {
		checkBidsOk(t, bids)
	}
	d := draws(52)
	for _, bids := range drawnBidsOfAll(&d, 200) {
		for _, order := range ordersOf(len(bids)) {
			checkBidsOk(t, placedBy(bids, order))
		}
	}
}
