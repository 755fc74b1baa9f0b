package tests

import (
	"slices"
	"testing"

	"loop.example/shortestates/impl"
)

// costsByPipes tells anew, from the sentence of the document, what each set of houses costs, pipe by pipe.
func costsByPipes(pipes []impl.Pipe) []int {
	ways := waysByDefinition(pipes)
	costs := make([]int, twoTo(len(pipes)))
	for end, pipe := range pipes {
		for set := range costs {
			members, _ := membersOf(set, len(pipes))
			if slices.ContainsFunc(members, func(house int) bool { return slices.Contains(ways[house], end) }) {
				costs[set] += pipe.Price
			}
		}
	}
	return costs
}

// askedCosts asks what each set of houses costs.
func askedCosts(pipes []impl.Pipe) []int {
	var costs []int
	for set := range twoTo(len(pipes)) {
		costs = append(costs, impl.PipesCost(pipes, set))
	}
	return costs
}

// Promise 70: of any two sets.
func TestTwoSetsOfHousesCostNoLessApart(t *testing.T) {
	for _, pipes := range manyPipes() {
		costs := askedCosts(pipes)
		if want := costsByPipes(pipes); !slices.Equal(costs, want) {
			t.Fatal(pipes, costs, want)
		}
		for set := range costs {
			for other := range set {
				union, common := bothOf(set, other, len(pipes))
				if costs[set]+costs[other] < costs[union]+costs[common] {
					t.Fatal(pipes, set, other, costs)
				}
			}
		}
	}
}

// Promise 70: one house costs what all pipes on its way cost, and at most as much as each set it is in.
func TestOneHouseCostsItsWay(t *testing.T) {
	for _, pipes := range manyPipes() {
		for house := range pipes {
			alone := impl.PipesCost(pipes, twoTo(house))
			on, _ := membersOf(impl.WayOf(pipes, house), len(pipes))
			if want := togetherOf(pricesOf(pipes), on); alone != want {
				t.Fatal(pipes, house, alone, want)
			}
			for set := range twoTo(len(pipes)) {
				members, _ := membersOf(set, len(pipes))
				if slices.Contains(members, house) && alone > impl.PipesCost(pipes, set) {
					t.Fatal("less with others", pipes, house, alone, set)
				}
			}
		}
	}
}

// Nobody costs nothing, and all houses cost all pipes. The houses of a way cost what the house at its end costs.
func TestSetsOfNobodyOfAWayAndOfAllCost(t *testing.T) {
	for _, pipes := range manyPipes() {
		if x := impl.PipesCost(pipes, 0); x != 0 {
			t.Fatal("nobody", pipes, x)
		}
		if x := impl.PipesCost(pipes, twoTo(len(pipes))-1); x != total(pricesOf(pipes)) {
			t.Fatal("all", pipes, x)
		}
		for house := range pipes {
			way := impl.WayOf(pipes, house)
			if alone, x := impl.PipesCost(pipes, twoTo(house)), impl.PipesCost(pipes, way); x != alone {
				t.Fatal("a way", pipes, house, way, alone, x)
			}
		}
	}
}

func pricesOf(pipes []impl.Pipe) []int {
	var prices []int
	for _, pipe := range pipes {
		prices = append(prices, pipe.Price)
	}
	return prices
}
