package tests

import (
	"math"
	"slices"
	"testing"

	"loop.example/shortestates/impl"
)

// treeTold has what the functions of chapter 12 tell of pipes.
type treeTold struct {
	ok                               bool
	ways, deep, costs, shares, means []int
}

func treeOf(pipes []impl.Pipe) treeTold {
	told := treeTold{ok: impl.PipesOk(pipes), shares: impl.PipeShares(pipes), means: impl.PipeOrders(pipes)}
	for house := -1; house <= 5; house++ {
		told.ways = append(told.ways, impl.WayOf(pipes, house))
		told.deep = append(told.deep, impl.DeepOf(pipes, house))
	}
	for set := -1; set <= 16; set++ {
		told.costs = append(told.costs, impl.PipesCost(pipes, set))
	}
	return told
}

func sameTree(a, b treeTold) bool {
	return a.ok == b.ok && slices.Equal(a.ways, b.ways) && slices.Equal(a.deep, b.deep) && slices.Equal(a.costs, b.costs) &&
		slices.Equal(a.shares, b.shares) && slices.Equal(a.means, b.means)
}

// guardedPipes returns pipes with spare capacity behind them, and all of the memory, which holds marks there.
func guardedPipes(pipes []impl.Pipe) ([]impl.Pipe, []impl.Pipe) {
	mark := impl.Pipe{Before: -77, Price: -77}
	memory := append(slices.Clone(pipes), mark, mark, mark)
	return memory[:len(pipes)], memory
}

// Spoiled results change neither pipes nor other results, and pipes that change later change no results.
func TestSharesOfPipesAreNewMemory(t *testing.T) {
	for _, r := range treeCases() {
		pipes, memory := guardedPipes(pipesOf(r.befores, r.prices))
		before := slices.Clone(memory)
		call := func() [][]int { return [][]int{impl.PipeShares(pipes), impl.PipeOrders(pipes)} }
		checkNewMemory(t, r, len(pipes), nil, call)
		if !slices.Equal(memory, before) {
			t.Fatal("an argument is written to", r, memory)
		}
		rows := call()
		for i := range memory {
			memory[i] = impl.Pipe{Before: math.MinInt, Price: math.MinInt}
		}
		if !slices.Equal(rows[0], r.shares) || !slices.Equal(rows[1], r.shares) {
			t.Fatal("a result shares memory", r, rows)
		}
	}
}

// somePipes returns pipes and rows that are none, each of these for one reason.
func somePipes() [][]impl.Pipe {
	all := [][]impl.Pipe{nil}
	for _, pipes := range fewPipes() {
		all = append(all, pipes)
		for house, pipe := range pipes {
			for _, spoiled := range []impl.Pipe{{Before: -2, Price: pipe.Price}, {Before: house, Price: pipe.Price}, {Before: pipe.Before, Price: -1}, {Before: pipe.Before, Price: 13}} {
				others := slices.Clone(pipes)
				others[house] = spoiled
				all = append(all, others)
			}
		}
		all = append(all, slices.Concat(pipes, []impl.Pipe{{Before: -1}, {Before: -1}, {Before: -1}, {Before: -1}}))
	}
	return all
}

// Nothing is written to pipes, whether they are some or not, also behind their end.
func TestPipesStay(t *testing.T) {
	for _, own := range somePipes() {
		pipes, memory := guardedPipes(own)
		before := slices.Clone(memory)
		told := treeOf(pipes)
		if !slices.Equal(memory, before) {
			t.Fatal("an argument is written to", own, memory)
		}
		if again := treeOf(pipes); told.ok != pipesByDefinition(own) || !sameTree(told, again) {
			t.Fatal("called again", own, told, again)
		}
	}
}

// What was asked before makes no difference.
func TestTreesAreToldAlikeEachTime(t *testing.T) {
	for range 3 {
		for _, r := range treeCases() {
			wantNoPipes(t, pipesOf([]int{-1, 1}, []int{3, 3}))
			told := treeOf(pipesOf(r.befores, r.prices))
			houses := len(r.befores)
			if !told.ok || !slices.Equal(told.ways[1:houses+1], r.ways) || !slices.Equal(told.deep[1:houses+1], r.deep) ||
				!slices.Equal(told.costs[1:len(r.costs)+1], r.costs) || !slices.Equal(told.shares, r.shares) || !slices.Equal(told.means, r.shares) {
				t.Fatal(r, told)
			}
		}
	}
}
