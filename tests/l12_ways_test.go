package tests

import (
	"slices"
	"testing"

	"loop.example/shortestates/impl"
)

// waysByDefinition tells anew for each house, from the first one on, the houses on its way: itself, and those on the way of the house before.
func waysByDefinition(pipes []impl.Pipe) [][]int {
	var ways [][]int
	for house, pipe := range pipes {
		way := []int{house}
		if pipe.Before != -1 {
			way = append(way, ways[pipe.Before]...)
		}
		ways = append(ways, way)
	}
	return ways
}

// setOf returns the number that tells the set of some houses.
func setOf(houses []int) int {
	set := 0
	for _, house := range houses {
		set += twoTo(house)
	}
	return set
}

// askedWays asks for the way of each house.
func askedWays(pipes []impl.Pipe) []int {
	var ways []int
	for house := range pipes {
		ways = append(ways, impl.WayOf(pipes, house))
	}
	return ways
}

// askedDepths asks for each house how many pipes are on its way.
func askedDepths(pipes []impl.Pipe) []int {
	var depths []int
	for house := range pipes {
		depths = append(depths, impl.DeepOf(pipes, house))
	}
	return depths
}

// Promise 69: the house is on its way, and the way of each house on it is within it.
func TestWaysGoThroughWays(t *testing.T) {
	for _, pipes := range manyPipes() {
		ways := waysByDefinition(pipes)
		for house, way := range ways {
			x := impl.WayOf(pipes, house)
			if x != setOf(way) {
				t.Fatal(pipes, house, x, way)
			}
			on, _ := membersOf(x, len(pipes))
			if !slices.Contains(on, house) {
				t.Fatal("not on the own way", pipes, house, on)
			}
			for _, other := range on {
				within, _ := membersOf(impl.WayOf(pipes, other), len(pipes))
				if !allWithin(within, on) {
					t.Fatal("not within the way", pipes, house, on, other, within)
				}
			}
		}
	}
}

// Promise 73: it is as many as the way has houses, and one more than that of the house before, if there is one, and else 1.
func TestOneHouseFurtherItIsOnePipeMore(t *testing.T) {
	for _, pipes := range manyPipes() {
		for house, pipe := range pipes {
			deep := impl.DeepOf(pipes, house)
			if on, _ := membersOf(impl.WayOf(pipes, house), len(pipes)); deep != len(on) {
				t.Fatal("houses of the way", pipes, house, deep, on)
			}
			want := 1
			if pipe.Before != -1 {
				want = impl.DeepOf(pipes, pipe.Before) + 1
			}
			if deep != want {
				t.Fatal("the house before", pipes, house, deep, want)
			}
		}
	}
}

// With all houses at the spring each one is alone on its way, and pays for its pipe alone.
func TestAllHousesAtTheSpring(t *testing.T) {
	for houses := 1; houses <= 4; houses++ {
		atSpring := slices.Repeat([]int{-1}, houses)
		for _, prices := range claimRows(houses, []int{0, 1, 4, 9, 12}) {
			pipes := pipesOf(atSpring, prices)
			if x := impl.PipeShares(pipes); !slices.Equal(x, inParts(prices)) {
				t.Fatal("shares", pipes, x)
			}
			if x := impl.PipeOrders(pipes); !slices.Equal(x, inParts(prices)) {
				t.Fatal("orders", pipes, x)
			}
			for house := range houses {
				if way, deep := impl.WayOf(pipes, house), impl.DeepOf(pipes, house); way != twoTo(house) || deep != 1 {
					t.Fatal(pipes, house, way, deep)
				}
			}
			for set := range twoTo(houses) {
				members, _ := membersOf(set, houses)
				if x := impl.PipesCost(pipes, set); x != togetherOf(prices, members) {
					t.Fatal("costs", pipes, set, x)
				}
			}
		}
	}
}

// Prices make no ways: with other ones, and with none, the ways are the same.
func TestPricesChangeNoWays(t *testing.T) {
	for houses := 1; houses <= 4; houses++ {
		for _, befores := range treesOf(houses) {
			ways := askedWays(pipesOf(befores, make([]int, houses)))
			depths := askedDepths(pipesOf(befores, make([]int, houses)))
			for _, prices := range claimRows(houses, []int{0, 1, 4, 9, 12}) {
				pipes := pipesOf(befores, prices)
				if x := askedWays(pipes); !slices.Equal(x, ways) {
					t.Fatal("ways", pipes, x, ways)
				}
				if x := askedDepths(pipes); !slices.Equal(x, depths) {
					t.Fatal("deep", pipes, x, depths)
				}
			}
		}
	}
}
