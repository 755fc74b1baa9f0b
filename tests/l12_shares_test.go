package tests

import (
	"slices"
	"testing"

	"loop.example/shortestates/impl"
)

// behindOf tells anew the houses whose ways go through the pipe of a house.
func behindOf(pipes []impl.Pipe, end int) []int {
	var behind []int
	for house, way := range waysByDefinition(pipes) {
		if slices.Contains(way, end) {
			behind = append(behind, house)
		}
	}
	return behind
}

// sharesByPipes tells anew, from the sentence of the document, what each house pays, pipe by pipe.
func sharesByPipes(pipes []impl.Pipe) []int {
	shares := make([]int, len(pipes))
	for end, pipe := range pipes {
		behind := behindOf(pipes, end)
		for _, house := range behind {
			shares[house] += 48 / len(behind) * pipe.Price
		}
	}
	return shares
}

// pipesAsTheyCome tells anew what the pipes cost more for each house, in parts, if houses come in an order: each one pays for the pipes on its way that are not there yet.
func pipesAsTheyCome(pipes []impl.Pipe, order []int) []int {
	ways := waysByDefinition(pipes)
	costs, laid := make([]int, len(pipes)), make([]bool, len(pipes))
	for _, house := range order {
		for _, end := range ways[house] {
			if !laid[end] {
				laid[end] = true
				costs[house] += 48 * pipes[end].Price
			}
		}
	}
	return costs
}

// checkAllPipesPaid checks promise 71: together they are all prices, no set of houses pays more than its cost, and they are the mean over all orders.
func checkAllPipesPaid(t *testing.T, pipes []impl.Pipe, shares []int) {
	t.Helper()
	if len(shares) != len(pipes) || total(shares) != 48*total(pricesOf(pipes)) {
		t.Fatal("all", pipes, shares)
	}
	for set := range twoTo(len(pipes)) {
		members, _ := membersOf(set, len(pipes))
		if togetherOf(shares, members) > 48*impl.PipesCost(pipes, set) {
			t.Fatal("more than its cost", pipes, shares, set)
		}
	}
	if x := impl.PipeOrders(pipes); !slices.Equal(x, shares) {
		t.Fatal("all orders", pipes, shares, x)
	}
	means, whole := meansOver(ordersOf(len(pipes)), func(order []int) []int { return pipesAsTheyCome(pipes, order) })
	if !whole || !slices.Equal(means, shares) {
		t.Fatal("means", pipes, shares, means, whole)
	}
}

// checkWithoutLast checks promise 72: without the last house, if there are two or more, no other one pays less.
func checkWithoutLast(t *testing.T, pipes []impl.Pipe, shares []int) {
	t.Helper()
	fewer := impl.PipeShares(pipes[:len(pipes)-1])
	if len(fewer) != len(pipes)-1 {
		t.Fatal("without the last house", pipes, fewer)
	}
	for house, share := range fewer {
		if share < shares[house] {
			t.Fatal("pays less", pipes, shares, fewer, house)
		}
	}
}

// checkDearer checks promise 74, of each pipe and not just of the first one: with its price one more, if that may be, just the houses whose ways go through it pay more, all alike.
func checkDearer(t *testing.T, pipes []impl.Pipe, shares []int) {
	t.Helper()
	for end := range pipes {
		dearer := slices.Clone(pipes)
		dearer[end].Price++
		x := impl.PipeShares(dearer)
		if pipes[end].Price == 12 {
			if x != nil || impl.PipesOk(dearer) {
				t.Fatal("too dear", dearer, x)
			}
			continue
		}
		behind := behindOf(pipes, end)
		want := slices.Clone(shares)
		for house := range pipes {
			on, _ := membersOf(impl.WayOf(dearer, house), len(pipes))
			if slices.Contains(on, end) != slices.Contains(behind, house) {
				t.Fatal("another way", dearer, house, on)
			}
			if slices.Contains(on, end) {
				want[house] += 48 / len(behind)
			}
		}
		if !slices.Equal(x, want) {
			t.Fatal("dearer", pipes, shares, dearer, x, want)
		}
	}
}

// Promises 71, 72 and 74.
func TestEachPipeIsPaidByThoseBehindIt(t *testing.T) {
	for _, pipes := range manyPipes() {
		shares := impl.PipeShares(pipes)
		if want := sharesByPipes(pipes); !slices.Equal(shares, want) {
			t.Fatal("shares", pipes, shares, want)
		}
		checkAllPipesPaid(t, pipes, shares)
		checkWithoutLast(t, pipes, shares)
		checkDearer(t, pipes, shares)
	}
}

// Promises 71, 72 and 74: of four houses at drawn prices, in all trees.
func TestPipesOfFourHousesAtDrawnPrices(t *testing.T) {
	d := draws(71)
	for _, befores := range treesOf(4) {
		for range 100 {
			pipes := pipesOf(befores, []int{d.below(13), d.below(13), d.below(13), d.below(13)})
			shares := impl.PipeShares(pipes)
			checkAllPipesPaid(t, pipes, shares)
			checkWithoutLast(t, pipes, shares)
			checkDearer(t, pipes, shares)
		}
	}
}

// Promise 71: if each house hangs on the one before, they are RunwayShares of what each way costs, if these are needs. All prices are asked.
func TestOnOnePathItIsARunway(t *testing.T) {
	runways, others := 0, 0
	for houses := 1; houses <= 4; houses++ {
		path := []int{-1, 0, 1, 2}[:houses]
		for _, prices := range claimRows(houses, inOrder(13)) {
			var needs []int
			for house := range houses {
				needs = append(needs, total(prices[:house+1]))
			}
			if ok := impl.NeedsOk(needs); ok != (total(prices) <= 12) {
				t.Fatal("needs", needs, ok)
			} else if !ok {
				others++
				continue
			}
			runways++
			pipes := pipesOf(path, prices)
			for house, need := range needs {
				if x := impl.PipesCost(pipes, twoTo(house)); x != need {
					t.Fatal("what a way costs", pipes, house, x, need)
				}
			}
			want := impl.RunwayShares(needs)
			if x := impl.PipeShares(pipes); !slices.Equal(x, want) {
				t.Fatal("shares", pipes, needs, x, want)
			}
			if x := impl.PipeOrders(pipes); !slices.Equal(x, want) {
				t.Fatal("orders", pipes, needs, x, want)
			}
		}
	}
	if runways != 13+91+455+1820 || others == 0 {
		t.Fatal("too few", runways, others)
	}
}

// Promise 72: each further house makes nobody pay more, wherever it hangs and whatever its pipe costs; it pays no less than the house before.
func TestAFurtherHouseMakesNobodyPayMore(t *testing.T) {
	for _, pipes := range slices.Concat(pipesAt(1, inOrder(13)), pipesAt(2, []int{0, 1, 5, 12}), pipesAt(3, []int{0, 1, 5, 12})) {
		before := impl.PipeShares(pipes)
		for hangs := -1; hangs < len(pipes); hangs++ {
			for price := range 13 {
				further := append(slices.Clone(pipes), impl.Pipe{Before: hangs, Price: price})
				shares := impl.PipeShares(further)
				if len(shares) != len(further) {
					t.Fatal(further, shares)
				}
				for house, share := range before {
					if shares[house] > share {
						t.Fatal("pays more", pipes, before, further, shares, house)
					}
				}
				least := 0
				if hangs >= 0 {
					least = shares[hangs]
				}
				if own := shares[len(pipes)]; own != least+48*price {
					t.Fatal("the further house", further, shares, own)
				}
			}
		}
	}
}

// Who hangs on a house by a pipe of no price pays as much as that house, and nothing at the spring.
func TestPipesOfNoPrice(t *testing.T) {
	for _, pipes := range manyPipes() {
		shares := impl.PipeShares(pipes)
		for house, pipe := range pipes {
			want := 0
			if pipe.Before != -1 {
				want = shares[pipe.Before]
			}
			if pipe.Price == 0 && shares[house] != want {
				t.Fatal(pipes, shares, house, want)
			}
		}
	}
	for houses := 1; houses <= 4; houses++ {
		for _, befores := range treesOf(houses) {
			pipes := pipesOf(befores, make([]int, houses))
			if x := impl.PipeShares(pipes); !slices.Equal(x, make([]int, houses)) {
				t.Fatal("shares", pipes, x)
			}
			if x := askedCosts(pipes); !slices.Equal(x, make([]int, twoTo(houses))) {
				t.Fatal("costs", pipes, x)
			}
		}
	}
}

// namedPipes returns pipes with other places for the houses, by an order, and whether each one leads to a lesser number then.
func namedPipes(pipes []impl.Pipe, order []int) ([]impl.Pipe, bool) {
	named, lesser := make([]impl.Pipe, len(pipes)), true
	for house, pipe := range pipes {
		if pipe.Before != -1 {
			pipe.Before = order[pipe.Before]
		}
		named[order[house]] = pipe
		lesser = lesser && pipe.Before < order[house]
	}
	return named, lesser
}

// With other places for the houses each one pays the same, if these are pipes.
func TestNamesChangeNoPipes(t *testing.T) {
	named, others := 0, 0
	for _, pipes := range fewPipes() {
		for _, order := range ordersOf(len(pipes)) {
			moved, ok := namedPipes(pipes, order)
			if !ok {
				others++
				wantNoPipes(t, moved)
				continue
			}
			named++
			want := placedBy(impl.PipeShares(pipes), order)
			if x := impl.PipeShares(moved); !slices.Equal(x, want) {
				t.Fatal("shares", pipes, order, moved, x, want)
			}
			if x := impl.PipeOrders(moved); !slices.Equal(x, want) {
				t.Fatal("orders", pipes, order, moved, x, want)
			}
			if x, want := askedDepths(moved), placedBy(askedDepths(pipes), order); !slices.Equal(x, want) {
				t.Fatal("deep", pipes, order, moved, x, want)
			}
		}
	}
	if named < 1000 || others < 1000 {
		t.Fatal("too few", named, others)
	}
}
