package tests

import (
	"slices"
	"testing"

	"loop.example/shortestates/impl"
)

// runwayTold has what the functions of chapter 10 tell of needs and a row.
type runwayTold struct {
	needs, pays          bool
	costs, shares, means []int
}

func runwayOf(needs, row []int) runwayTold {
	told := runwayTold{impl.NeedsOk(needs), impl.PaysOk(needs, row), nil, impl.RunwayShares(needs), impl.RunwayOrders(needs)}
	for set := -1; set <= 16; set++ {
		told.costs = append(told.costs, impl.RunwayCost(needs, set))
	}
	return told
}

func sameRunway(a, b runwayTold) bool {
	return a.needs == b.needs && a.pays == b.pays && slices.Equal(a.costs, b.costs) &&
		slices.Equal(a.shares, b.shares) && slices.Equal(a.means, b.means)
}

// Spoiled results change neither arguments nor other results, and arguments that change later change no results.
func TestRunwaySharesAreNewMemory(t *testing.T) {
	for _, r := range needCases() {
		needs, memory := guarded(r.needs...)
		checkNewMemory(t, r, len(needs), [][]int{memory}, func() [][]int {
			return [][]int{impl.RunwayShares(needs), impl.RunwayOrders(needs)}
		})
	}
}

// someNeeds returns needs and rows that are none, each with a row that can be paid or cannot.
func someNeeds() []paidRow {
	rows := paidRows()
	for _, r := range needCases() {
		rows = append(rows, paidRow{r.needs, r.shares, true})
		for _, row := range likelyPayments(r.needs) {
			rows = append(rows, paidRow{r.needs, row, paysByDefinition(r.needs, row)})
		}
	}
	for _, needs := range [][]int{
		nil, {13}, {-1}, {3, 13}, {13, 3}, {9, -1, 4}, {4, 9, 13}, {3, 2, 1, -1}, {5, 4, 3, 2, 1}, {1, 0, 0, 0, 0, 0}, {1 << 62, 1 << 62},
	} {
		for _, row := range append(likelyPayments(needs), []int{48, 120, 120}) {
			rows = append(rows, paidRow{needs, row, false})
		}
	}
	return rows
}

// Nothing is written to needs and rows, whether they are some or not, also behind their ends.
func TestNeedsAndPaymentsStay(t *testing.T) {
	for _, r := range someNeeds() {
		needs, memoryOfNeeds := guarded(r.needs...)
		row, memoryOfRow := guarded(r.row...)
		before := cloneRows([][]int{memoryOfNeeds, memoryOfRow})
		told := runwayOf(needs, row)
		if !slices.Equal(memoryOfNeeds, before[0]) || !slices.Equal(memoryOfRow, before[1]) {
			t.Fatal("an argument is written to", r, memoryOfNeeds, memoryOfRow)
		}
		if again := runwayOf(needs, row); told.pays != r.ok || !sameRunway(told, again) {
			t.Fatal("called again", r, told, again)
		}
	}
}

// The row may lie in the same memory as the needs.
func TestNeedsThatArePaidThemselves(t *testing.T) {
	memory := []int{0, 0, 0, 0, 3, 6, 144, 144}
	before := slices.Clone(memory)
	for _, r := range []struct {
		needs, row []int
		ok         bool
	}{
		{memory[:1], memory[:1], true}, {memory[:4], memory[:4], true}, {memory[1:4], memory[:3], true},
		{memory[4:6], memory[6:], true}, {memory[4:6], memory[4:6], false}, {memory[3:6], memory[5:], false}, {memory[4:6], memory[5:7], false},
	} {
		if x := impl.PaysOk(r.needs, r.row); x != r.ok || !slices.Equal(memory, before) {
			t.Fatal(r, x, memory)
		}
	}
}

// What was asked before makes no difference.
func TestRunwaysAreToldAlikeEachTime(t *testing.T) {
	for range 3 {
		for _, r := range needCases() {
			wantNoNeeds(t, []int{13, 0})
			if told := runwayOf(r.needs, r.shares); !told.needs || !told.pays || !slices.Equal(told.shares, r.shares) || !slices.Equal(told.means, r.shares) {
				t.Fatal(r, told)
			}
		}
	}
}
