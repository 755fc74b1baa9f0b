package tests

import (
	"slices"
	"testing"

	"loop.example/shortestates/impl"
)

// treeCase has what the functions of chapter 12 return for pipes, told by the houses before and the prices, reckoned by hand: a row for each house has the way, how deep it is, and what the house pays, and one for each set of houses what it costs.
type treeCase struct {
	befores, prices           []int
	ways, deep, costs, shares []int
}

func treeCases() []treeCase {
	return append(edgesOfTrees(), []treeCase{
		{[]int{-1, 0, 0}, []int{6, 2, 4}, []int{1, 3, 5}, []int{1, 2, 2}, []int{0, 6, 8, 8, 10, 10, 12, 12}, []int{96, 192, 288}},
		{[]int{-1, -1, -1}, []int{3, 5, 7}, []int{1, 2, 4}, []int{1, 1, 1}, []int{0, 3, 5, 8, 7, 10, 12, 15}, []int{144, 240, 336}},
		{[]int{-1, -1, 1}, []int{2, 3, 4}, []int{1, 2, 6}, []int{1, 1, 2}, []int{0, 2, 3, 5, 7, 9, 7, 9}, []int{96, 72, 264}},
		{[]int{-1, 0}, []int{2, 3}, []int{1, 3}, []int{1, 2}, []int{0, 2, 5, 5}, []int{48, 192}},
		{[]int{-1, -1}, []int{2, 3}, []int{1, 2}, []int{1, 1}, []int{0, 2, 3, 5}, []int{96, 144}},
		{
			[]int{-1, 0, 1, 2}, []int{1, 1, 1, 5}, []int{1, 3, 7, 15}, []int{1, 2, 3, 4},
			[]int{0, 1, 2, 2, 3, 3, 3, 3, 8, 8, 8, 8, 8, 8, 8, 8}, []int{12, 28, 52, 292},
		},
		{
			[]int{-1, -1, 0, 1}, []int{4, 2, 1, 3}, []int{1, 2, 5, 10}, []int{1, 1, 2, 2},
			[]int{0, 4, 2, 6, 5, 5, 7, 7, 5, 9, 5, 9, 10, 10, 10, 10}, []int{96, 48, 144, 192},
		},
		{
			[]int{-1, 0, -1, 2}, []int{5, 7, 1, 2}, []int{1, 3, 4, 12}, []int{1, 2, 1, 2},
			[]int{0, 5, 12, 12, 1, 6, 13, 13, 3, 8, 15, 15, 3, 8, 15, 15}, []int{120, 456, 24, 120},
		},
		{
			[]int{-1, 0, 0, 0}, []int{1, 1, 1, 1}, []int{1, 3, 5, 9}, []int{1, 2, 2, 2},
			[]int{0, 1, 2, 2, 2, 2, 3, 3, 2, 2, 3, 3, 3, 3, 4, 4}, []int{12, 60, 60, 60},
		},
		{
			[]int{-1, 0, 1, 0}, []int{3, 6, 1, 2}, []int{1, 3, 7, 9}, []int{1, 2, 3, 2},
			[]int{0, 3, 9, 9, 10, 10, 10, 10, 5, 5, 11, 11, 12, 12, 12, 12}, []int{36, 180, 228, 132},
		},
	}...)
}

func edgesOfTrees() []treeCase {
	return []treeCase{
		// One house alone.
		{[]int{-1}, []int{0}, []int{1}, []int{1}, []int{0, 0}, []int{0}},
		{[]int{-1}, []int{1}, []int{1}, []int{1}, []int{0, 1}, []int{48}},
		{[]int{-1}, []int{12}, []int{1}, []int{1}, []int{0, 12}, []int{576}},
		// Pipes of no price, by one and by all.
		{[]int{-1, 0}, []int{0, 5}, []int{1, 3}, []int{1, 2}, []int{0, 0, 5, 5}, []int{0, 240}},
		{[]int{-1, 0}, []int{5, 0}, []int{1, 3}, []int{1, 2}, []int{0, 5, 5, 5}, []int{120, 120}},
		{[]int{-1, -1, 1}, []int{2, 3, 0}, []int{1, 2, 6}, []int{1, 1, 2}, []int{0, 2, 3, 5, 3, 5, 3, 5}, []int{96, 72, 72}},
		{[]int{-1, 0, 1}, []int{0, 0, 0}, []int{1, 3, 7}, []int{1, 2, 3}, make([]int, 8), make([]int, 3)},
		{[]int{-1, -1, -1, -1}, []int{0, 0, 0, 0}, []int{1, 2, 4, 8}, []int{1, 1, 1, 1}, make([]int, 16), make([]int, 4)},
		{
			[]int{-1, 0, 1, 1}, []int{12, 0, 6, 3}, []int{1, 3, 7, 11}, []int{1, 2, 3, 3},
			[]int{0, 12, 12, 12, 18, 18, 18, 18, 15, 15, 15, 15, 21, 21, 21, 21}, []int{144, 144, 432, 288},
		},
		{
			[]int{-1, 0, 0, 2}, []int{7, 0, 3, 9}, []int{1, 3, 5, 13}, []int{1, 2, 2, 3},
			[]int{0, 7, 7, 7, 10, 10, 10, 10, 19, 19, 19, 19, 19, 19, 19, 19}, []int{84, 84, 156, 588},
		},
		// MaxClaimants houses and prices of MaxClaim: all at the spring, each hanging on the one before, and all on the first one.
		{
			[]int{-1, -1, -1, -1}, []int{12, 12, 12, 12}, []int{1, 2, 4, 8}, []int{1, 1, 1, 1},
			[]int{0, 12, 12, 24, 12, 24, 24, 36, 12, 24, 24, 36, 24, 36, 36, 48}, []int{576, 576, 576, 576},
		},
		{
			[]int{-1, 0, 1, 2}, []int{12, 12, 12, 12}, []int{1, 3, 7, 15}, []int{1, 2, 3, 4},
			[]int{0, 12, 24, 24, 36, 36, 36, 36, 48, 48, 48, 48, 48, 48, 48, 48}, []int{144, 336, 624, 1200},
		},
		{
			[]int{-1, 0, 0, 0}, []int{12, 12, 12, 12}, []int{1, 3, 5, 9}, []int{1, 2, 2, 2},
			[]int{0, 12, 24, 24, 24, 24, 36, 36, 24, 24, 36, 36, 36, 36, 48, 48}, []int{144, 720, 720, 720},
		},
	}
}

// pipesOf returns a pipe for each house, to the house before, or the spring, at a price.
func pipesOf(befores, prices []int) []impl.Pipe {
	var pipes []impl.Pipe
	for house, before := range befores {
		pipes = append(pipes, impl.Pipe{Before: before, Price: prices[house]})
	}
	return pipes
}

// treesOf returns for so many houses all rows of the houses before, or the spring.
func treesOf(houses int) [][]int {
	trees := [][]int{{}}
	for house := range houses {
		var longer [][]int
		for _, tree := range trees {
			for before := -1; before < house; before++ {
				longer = append(longer, append(slices.Clone(tree), before))
			}
		}
		trees = longer
	}
	return trees
}

// pipesAt returns for so many houses all pipes at some prices.
func pipesAt(houses int, prices []int) [][]impl.Pipe {
	var all [][]impl.Pipe
	for _, befores := range treesOf(houses) {
		for _, row := range claimRows(houses, prices) {
			all = append(all, pipesOf(befores, row))
		}
	}
	return all
}

// manyPipes returns all pipes of up to three houses, and those of four houses at a few prices, edges among them.
func manyPipes() [][]impl.Pipe {
	return slices.Concat(pipesAt(1, inOrder(13)), pipesAt(2, inOrder(13)), pipesAt(3, inOrder(13)), pipesAt(4, []int{0, 1, 4, 9, 12}))
}

// fewPipes returns all trees of up to four houses at very few prices.
func fewPipes() [][]impl.Pipe {
	return slices.Concat(pipesAt(1, inOrder(13)), pipesAt(2, []int{0, 1, 5, 12}), pipesAt(3, []int{0, 1, 12}), pipesAt(4, []int{0, 7}))
}

func TestPipesByHand(t *testing.T) {
	for _, r := range treeCases() {
		pipes := pipesOf(r.befores, r.prices)
		if !impl.PipesOk(pipes) {
			t.Fatal("no pipes", r)
		}
		if x := askedWays(pipes); !slices.Equal(x, r.ways) {
			t.Fatal("ways", r, x)
		}
		if x := askedDepths(pipes); !slices.Equal(x, r.deep) {
			t.Fatal("deep", r, x)
		}
		if x := askedCosts(pipes); !slices.Equal(x, r.costs) {
			t.Fatal("costs", r, x)
		}
		if x := impl.PipeShares(pipes); !slices.Equal(x, r.shares) {
			t.Fatal("shares", r, x)
		}
		if x := impl.PipeOrders(pipes); !slices.Equal(x, r.shares) {
			t.Fatal("orders", r, x)
		}
	}
}

func TestConstantOfTrees(t *testing.T) {
	if impl.Spring != -1 {
		t.Fatal(impl.Spring)
	}
}

// Promise 68: one pipe of no price to the spring is some, and pipes without the last house, while there are two or more. A further house makes pipes if there is room for it.
func TestOneHouseAtTheSpringIsEnough(t *testing.T) {
	if !impl.PipesOk([]impl.Pipe{{Before: -1, Price: 0}}) {
		t.Fatal("one house at the spring")
	}
	for _, pipes := range manyPipes() {
		for houses := range len(pipes) + 1 {
			if x := impl.PipesOk(pipes[:houses]); x != (houses > 0) {
				t.Fatal(pipes[:houses], x)
			}
		}
		for before := -1; before < len(pipes); before++ {
			further := append(slices.Clone(pipes), impl.Pipe{Before: before, Price: 12})
			if x := impl.PipesOk(further); x != (len(pipes) < 4) {
				t.Fatal("a further house", further, x)
			}
		}
	}
}

// The last one of up to six houses has a pipe to each number, and at each price, whether it may be or not.
func TestPipesLeadToLesserNumbersAtPrices(t *testing.T) {
	for _, pipes := range append(fewPipes(), nil) {
		house := len(pipes)
		for number := -6; number <= 20; number++ {
			further := append(slices.Clone(pipes), impl.Pipe{Before: number, Price: 3})
			if x := impl.PipesOk(further); x != (house < 4 && number >= -1 && number < house) {
				t.Fatal("before", further, x)
			}
			further[house] = impl.Pipe{Before: house - 1, Price: number}
			if x := impl.PipesOk(further); x != (house < 4 && number >= 0 && number <= 12) {
				t.Fatal("price", further, x)
			}
		}
	}
}
