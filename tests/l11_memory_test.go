package tests

import (
	"slices"
	"testing"

	"loop.example/shortestates/impl"
)

// passesTold has what the functions of chapter 11 tell of visits at a price.
type passesTold struct {
	ok                    bool
	worths, shares, means []int
}

func passesOf(houses int, visits []int, price int) passesTold {
	told := passesTold{impl.VisitsOk(houses, visits), nil, impl.PassShares(houses, visits, price), impl.PassOrders(houses, visits, price)}
	for set := -1; set <= 16; set++ {
		told.worths = append(told.worths, impl.PassWorth(houses, visits, set))
	}
	return told
}

func samePasses(a, b passesTold) bool {
	return a.ok == b.ok && slices.Equal(a.worths, b.worths) && slices.Equal(a.shares, b.shares) && slices.Equal(a.means, b.means)
}

// Spoiled results change neither arguments nor other results, and arguments that change later change no results.
func TestRowsOfPassesAreNewMemory(t *testing.T) {
	for _, r := range passCases() {
		visits, memory := guarded(r.visits...)
		checkNewMemory(t, r, r.houses, [][]int{memory}, func() [][]int {
			return [][]int{impl.PassShares(r.houses, visits, r.price), impl.PassOrders(r.houses, visits, r.price)}
		})
	}
}

// somePasses returns visits and rows that are none, at prices and amounts that are none.
func somePasses() []passCase {
	cases := passCases()
	for _, r := range passCases() {
		for _, houses := range []int{0, -1, r.houses - 1, 5} {
			cases = append(cases, passCase{houses: houses, visits: r.visits, price: r.price})
		}
		for _, price := range []int{-1, 13, 12 - r.price} {
			cases = append(cases, passCase{houses: r.houses, visits: r.visits, price: price})
		}
		cases = append(cases,
			passCase{houses: r.houses, visits: append(slices.Clone(r.visits), -1), price: r.price},
			passCase{houses: r.houses, visits: append([]int{16}, r.visits...), price: r.price},
			passCase{houses: r.houses, visits: append(slices.Clone(r.visits), 1, 1, 1, 1, 1, 1, 1), price: r.price},
		)
	}
	return cases
}

// Nothing is written to visits, whether they are some or not, also behind their end.
func TestVisitsStay(t *testing.T) {
	for _, r := range somePasses() {
		visits, memory := guarded(r.visits...)
		before := slices.Clone(memory)
		told := passesOf(r.houses, visits, r.price)
		if !slices.Equal(memory, before) {
			t.Fatal("an argument is written to", r, memory)
		}
		if again := passesOf(r.houses, visits, r.price); told.ok != visitsByDefinition(r.houses, r.visits) || !samePasses(told, again) {
			t.Fatal("called again", r, told, again)
		}
	}
}

// What was asked before makes no difference.
func TestPassesAreToldAlikeEachTime(t *testing.T) {
	for range 3 {
		for _, r := range passCases() {
			wantNoVisits(t, r.houses, []int{1, 16})
			told := passesOf(r.houses, r.visits, r.price)
			if !told.ok || !slices.Equal(told.worths[1:len(r.worths)+1], r.worths) || !slices.Equal(told.shares, r.shares) || !slices.Equal(told.means, r.shares) {
				t.Fatal(r, told)
			}
		}
	}
}
