package tests

import (
	"slices"
	"testing"

	"loop.example/shortestates/impl"
)

// mapped returns bids with each row changed.
func mapped(bids [][]int, change func(own []int) []int) [][]int {
	var others [][]int
	for _, own := range bids {
		others = append(others, change(own))
	}
	return others
}

// multiplied returns the numbers of a row, each so many times.
func multiplied(row []int, times int) []int {
	var others []int
	for _, number := range row {
		others = append(others, times*number)
	}
	return others
}

// ownTaken returns for each person the own bids for all things that it takes, in parts.
func ownTaken(bids [][]int, takers []int) []int {
	taken := make([]int, len(bids))
	for person, own := range bids {
		for thing, taker := range takers {
			if taker == person {
				taken[person] += 48 * own[thing]
			}
		}
	}
	return taken
}

// allAlike reports whether all people bid the same for each thing.
func allAlike(bids [][]int) bool {
	return !slices.ContainsFunc(bids, func(own []int) bool { return !slices.Equal(own, bids[0]) })
}

// checkTakers checks promise 51: of each thing nobody bids more than who takes it, and nobody before as much.
func checkTakers(t *testing.T, bids [][]int, takers []int) {
	t.Helper()
	if len(takers) != len(bids[0]) {
		t.Fatal("takers", bids, takers)
	}
	for thing, taker := range takers {
		for person, own := range bids {
			greatest := bids[taker][thing]
			if own[thing] > greatest || person < taker && own[thing] == greatest {
				t.Fatal("takes", bids, takers, thing, person)
			}
		}
	}
}

// checkFair checks promise 52: fair shares are the same part of the own bids, and twice as great for twice the bids.
func checkFair(t *testing.T, bids [][]int, fair []int) {
	t.Helper()
	greatest := 0
	for person, own := range bids {
		if len(fair) != len(bids) || len(bids)*fair[person] != 48*total(own) {
			t.Fatal("fair", bids, fair)
		}
		greatest = max(greatest, slices.Max(append([]int{0}, own...)))
	}
	twice := mapped(bids, func(own []int) []int { return multiplied(own, 2) })
	if impl.BidsOk(twice) != (greatest <= 6) {
		t.Fatal("twice", twice)
	}
	if x := impl.FairRow(twice); greatest <= 6 && !slices.Equal(x, multiplied(fair, 2)) {
		t.Fatal("twice", bids, fair, x)
	}
}

// checkSurplus checks promise 53: the surplus is at least 0, and 0 just if all bid the same.
func checkSurplus(t *testing.T, bids [][]int, surplus int) {
	t.Helper()
	if surplus < 0 || (surplus == 0) != allAlike(bids) {
		t.Fatal("surplus", bids, surplus)
	}
}

// checkPaid checks promise 54: all payments are together 0, and with what is taken each one has more than the fair share by just the surplus.
func checkPaid(t *testing.T, bids [][]int, told bidsTold) {
	t.Helper()
	if len(told.paid) != len(bids) || total(told.paid) != 0 {
		t.Fatal("paid", bids, told)
	}
	for person, taken := range ownTaken(bids, told.takers) {
		more := len(bids)*(taken-told.fair[person]) + told.paid[person]
		if more < 0 || more != told.surplus {
			t.Fatal("fair share at least", bids, told, person)
		}
	}
}

// checkEnds checks promise 55: in the end all have as much more than the fair share, and with one thing less the surplus is no more.
func checkEnds(t *testing.T, bids [][]int, told bidsTold) {
	t.Helper()
	if !slices.Equal(less(told.ends, multiplied(told.fair, len(bids))), slices.Repeat([]int{told.surplus}, len(bids))) {
		t.Fatal("ends", bids, told)
	}
	if !slices.Equal(less(told.ends, told.paid), multiplied(ownTaken(bids, told.takers), len(bids))) {
		t.Fatal("ends without what is paid", bids, told)
	}
	things := len(bids[0])
	if things == 0 {
		return
	}
	fewer := mapped(bids, func(own []int) []int { return slices.Clone(own[:things-1]) })
	if x := impl.SurplusOf(fewer); x < 0 || x > told.surplus {
		t.Fatal("one thing less", bids, told, x)
	}
}

// checkTurned checks promise 56: with the people from the last one on the surplus is the same and the fair shares are turned, and bids of one more thing that are all alike leave the surplus as it is.
func checkTurned(t *testing.T, bids [][]int, told bidsTold) {
	t.Helper()
	behind := fromBehind(bids)
	if x, row := impl.SurplusOf(behind), impl.FairRow(behind); x != told.surplus || !slices.Equal(row, fromBehind(told.fair)) {
		t.Fatal("turned", bids, told, x, row)
	}
	for _, bid := range []int{0, 5, 12} {
		longer := mapped(bids, func(own []int) []int { return append(slices.Clone(own), bid) })
		want := told.surplus
		if len(longer[0]) > 4 {
			want = -1
		}
		if x := impl.SurplusOf(longer); x != want {
			t.Fatal("one more thing alike", longer, x, want)
		}
	}
}

// checkBids checks promises 51 to 56 of valid bids, and all that is told of them.
func checkBids(t *testing.T, bids [][]int) bidsTold {
	t.Helper()
	told := bidsToldBy(bids)
	checkTakers(t, bids, told.takers)
	checkFair(t, bids, told.fair)
	checkSurplus(t, bids, told.surplus)
	checkPaid(t, bids, told)
	checkEnds(t, bids, told)
	checkTurned(t, bids, told)
	if want := bidsByDefinition(bids); !sameTold(told, want) {
		t.Fatal(bids, told, want)
	}
	return told
}

// Promises 51 to 56.
func TestEverybodyHasTheFairShareAtLeast(t *testing.T) {
	for _, r := range bidCases() {
		checkBids(t, r.bids)
	}
	for _, bids := range validBids() {
		checkBids(t, bids)
	}
}

// Promises 51 to 56, of bids of any amounts for any number of things, with equal ones among them.
func TestEverybodyHasTheFairShareOfDrawnBids(t *testing.T) {
	d := draws(53)
	later := 0
	for _, bids := range drawnBidsOfAll(&d, 3000) {
		for thing, taker := range checkBids(t, bids).takers {
			greatest := bids[taker][thing]
			if slices.Index(fromBehind(bidsFor(bids, thing)), greatest) != len(bids)-1-taker {
				later++
			}
		}
	}
	if later < 1000 {
		t.Fatal("too few equal bids", later)
	}
}

// Promise 52, of bids of which twice may be bid, and promise 53, of bids that are all alike.
func TestBidsOfSmallAmountsAndBidsAlike(t *testing.T) {
	d := draws(54)
	for _, bids := range drawnBidsOfAll(&d, 1000) {
		small := mapped(bids, func(own []int) []int { return slices.Clone(own) })
		for _, own := range small {
			for thing := range own {
				own[thing] /= 2
			}
		}
		checkBids(t, small)
		alike := mapped(bids, func([]int) []int { return bids[0] })
		if told := checkBids(t, alike); told.surplus != 0 || slices.ContainsFunc(told.takers, func(taker int) bool { return taker != 0 }) {
			t.Fatal(alike, told)
		}
	}
}

// hasEqualGreatest reports whether two people bid the greatest amount for the same thing.
func hasEqualGreatest(bids [][]int) bool {
	for thing := range bids[0] {
		column := bidsFor(bids, thing)
		slices.Sort(column)
		if column[len(column)-1] == column[len(column)-2] {
			return true
		}
	}
	return false
}

// With other places for the people each one has the same in the end, and if no greatest bids are equal is paid the same.
func TestNamesChangeNoEnds(t *testing.T) {
	d := draws(55)
	for _, bids := range drawnBidsOfAll(&d, 500) {
		told, equal := bidsToldBy(bids), hasEqualGreatest(bids)
		for _, order := range ordersOf(len(bids)) {
			x := bidsToldBy(placedBy(bids, order))
			if !slices.Equal(x.ends, placedBy(told.ends, order)) || !slices.Equal(x.fair, placedBy(told.fair, order)) {
				t.Fatal(bids, order, told, x)
			}
			if !equal && !slices.Equal(x.paid, placedBy(told.paid, order)) {
				t.Fatal("paid", bids, order, told, x)
			}
		}
	}
}
