package tests

import (
	"slices"
	"testing"
	"unsafe"

	"loop.example/shortestates/impl"
)

// guardedBids returns bids of which each row, and the row of all rows, has further memory behind its end, and all of this memory: that of each row, and that of the row of all rows.
func guardedBids(bids [][]int) (guard [][]int, memories [][]int, all [][]int) {
	for _, own := range bids {
		row, memory := guarded(own...)
		all = append(all, row)
		memories = append(memories, memory)
	}
	behind := []int{-77, -77}
	all = append(all, behind)
	return all[:len(bids)], append(memories, behind), all
}

// sameRows reports whether rows are just the same memory.
func sameRows(a, b [][]int) bool {
	return slices.EqualFunc(a, b, func(row, other []int) bool {
		return len(row) == len(other) && cap(row) == cap(other) && unsafe.SliceData(row) == unsafe.SliceData(other)
	})
}

// someBids returns bids and rows that are none.
func someBids() [][][]int {
	d := draws(58)
	all := drawnBidsOfAll(&d, 20)
	for _, r := range bidCases() {
		all = append(all, r.bids)
	}
	for people := range 7 {
		all = append(all, alikeBids(people, 5, 1), alikeBids(people, 2, 13), alikeBids(people, 2, -1), append(alikeBids(people, 2, 6), []int{7}))
	}
	return all
}

// Spoiled results change neither arguments nor other results, and arguments that change later change no results.
func TestRowsOfBidsAreNewMemory(t *testing.T) {
	for _, bids := range someBids() {
		if !impl.BidsOk(bids) {
			continue
		}
		for _, rowsOf := range []struct {
			numbers int
			call    func(bids [][]int) [][]int
		}{
			{len(bids[0]), func(bids [][]int) [][]int { return [][]int{impl.TakersOf(bids)} }},
			{len(bids), func(bids [][]int) [][]int { return [][]int{impl.FairRow(bids), impl.PaidRow(bids), impl.EndRow(bids)} }},
		} {
			guard, memories, _ := guardedBids(bids)
			checkNewMemory(t, bids, rowsOf.numbers, memories, func() [][]int { return rowsOf.call(guard) })
		}
	}
}

// Nothing is written to bids, whether they are some or not, nor to the rows within them, also behind their ends; and the rows stay where they are.
func TestBidsStay(t *testing.T) {
	for _, bids := range someBids() {
		guard, memories, all := guardedBids(bids)
		before, rows := cloneRows(memories), slices.Clone(all)
		ok, told := impl.BidsOk(guard), bidsToldBy(guard)
		if !slices.EqualFunc(memories, before, slices.Equal) || !sameRows(all, rows) {
			t.Fatal("an argument is written to", bids, before, memories)
		}
		if again := bidsToldBy(guard); ok != impl.BidsOk(guard) || !sameTold(told, again) {
			t.Fatal("called again", bids, told, again)
		}
	}
}

// The same row may be that of several people, and rows may lie behind each other in one memory.
func TestRowsThatShareMemoryAreBids(t *testing.T) {
	memory := []int{6, 2, 4, 8, 0, 12}
	before := slices.Clone(memory)
	for _, bids := range [][][]int{
		{memory[:2], memory[2:4]}, {memory[:2], memory[2:4], memory[4:]}, {memory[:3], memory[1:4], memory[2:5], memory[3:]},
		{memory[:2], memory[:2]}, {memory[:4], memory[:4], memory[:4], memory[:4]}, {memory[:0], memory[:0]},
	} {
		if told := bidsToldBy(bids); !impl.BidsOk(bids) || !sameTold(told, bidsByDefinition(bids)) || !slices.Equal(memory, before) {
			t.Fatal(bids, told, memory)
		}
	}
}

// What was asked before makes no difference.
func TestBidsAreToldAlikeEachTime(t *testing.T) {
	for range 3 {
		for _, r := range bidCases() {
			wantNoBids(t, [][]int{{13}, {0}})
			if x := bidsToldBy(r.bids); !sameTold(x, r.told) {
				t.Fatal(r, x)
			}
		}
	}
}
