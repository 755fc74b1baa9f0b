package tests

import (
	"math"
	"slices"
	"testing"

	"loop.example/shortestates/impl"
)

// wantNoPipes checks of pipes that are none what the functions of chapter 12 return for them, also for houses and sets that would be some.
func wantNoPipes(t *testing.T, pipes []impl.Pipe) {
	t.Helper()
	if impl.PipesOk(pipes) {
		t.Fatal("ok", pipes)
	}
	for _, house := range []int{0, 1, 2, 3, 4, 5, 63, 64, -1, -2, 1 << 32, math.MaxInt, math.MinInt} {
		wantNoHouse(t, pipes, house)
	}
	for _, set := range []int{0, 1, 2, 3, 7, 15, 16, 31, 32, -1, 1 << 32, math.MaxInt, math.MinInt} {
		wantNoCost(t, pipes, set)
	}
	if x, means := impl.PipeShares(pipes), impl.PipeOrders(pipes); x != nil || means != nil {
		t.Fatal("shares", pipes, x, means)
	}
}

func wantNoHouse(t *testing.T, pipes []impl.Pipe, house int) {
	t.Helper()
	if way, deep := impl.WayOf(pipes, house), impl.DeepOf(pipes, house); way != -1 || deep != -1 {
		t.Fatal("house", pipes, house, way, deep)
	}
}

func wantNoCost(t *testing.T, pipes []impl.Pipe, set int) {
	t.Helper()
	if x := impl.PipesCost(pipes, set); x != -1 {
		t.Fatal("cost", pipes, set, x)
	}
}

func TestNoPipesAndTooManyPipes(t *testing.T) {
	wantNoPipes(t, nil)
	wantNoPipes(t, []impl.Pipe{})
	for _, houses := range []int{5, 6, 8, 16, 31, 32, 33, 63, 64, 65, 255, 256, 257, 260, 1000} {
		for _, price := range []int{0, 1, 12} {
			prices := slices.Repeat([]int{price}, houses)
			wantNoPipes(t, pipesOf(slices.Repeat([]int{-1}, houses), prices))
			wantNoPipes(t, pipesOf(append([]int{-1}, inOrder(houses-1)...), prices))
			wantNoPipes(t, pipesOf(append([]int{-1}, make([]int, houses-1)...), prices))
		}
	}
	for _, befores := range treesOf(5) {
		wantNoPipes(t, pipesOf(befores, []int{0, 1, 2, 3, 4}))
	}
}

// beforesOutside returns numbers to which a house has no pipe: its own, those of later houses and of houses that are not there, and those below the spring.
func beforesOutside(house int) []int {
	return []int{
		house, house + 1, house + 2, 3, 4, 5, 8, 31, 32, 63, 64, 65, 255, 256, 1<<32 - 1, 1 << 32, 1<<32 + house, 1 << 62, math.MaxInt - 1, math.MaxInt,
		-2, -3, -4, -48, -64, -256, -257, -1 << 32, -1<<32 - 1, -1<<32 + house, -1 << 62, math.MinInt, math.MinInt + 1,
	}
}

// wantNoneWith checks of pipes that they are none with another pipe for a house, and that they are some as they were.
func wantNoneWith(t *testing.T, pipes []impl.Pipe, house int, spoiled impl.Pipe) {
	t.Helper()
	others := slices.Clone(pipes)
	others[house] = spoiled
	wantNoPipes(t, others)
	if !impl.PipesOk(pipes) {
		t.Fatal("no pipes", pipes)
	}
}

// Each pipe in turn leads to a number to which it may not, of pipes that are some otherwise.
func TestPipesToWhereTheyMayNotLead(t *testing.T) {
	for _, pipes := range fewPipes() {
		for house, pipe := range pipes {
			for _, before := range beforesOutside(house) {
				wantNoneWith(t, pipes, house, impl.Pipe{Before: before, Price: pipe.Price})
			}
		}
	}
	for houses := 1; houses <= 4; houses++ {
		prices := make([]int, houses)
		wantNoPipes(t, pipesOf(inOrder(houses), prices))
		wantNoPipes(t, pipesOf(make([]int, houses), prices))
		wantNoPipes(t, pipesOf(slices.Repeat([]int{-2}, houses), prices))
	}
	// Ways that come round to where they began, and never to the spring.
	wantNoPipes(t, pipesOf([]int{1, 0}, []int{1, 1}))
	wantNoPipes(t, pipesOf([]int{-1, 2, 1}, []int{1, 1, 1}))
	wantNoPipes(t, pipesOf([]int{1, 2, 3, 0}, []int{1, 1, 1, 1}))
	wantNoPipes(t, pipesOf([]int{1, 2, 3, -1}, []int{1, 1, 1, 1}))
}

// Each pipe in turn has a price out of range, of pipes that are some otherwise.
func TestPricesOfPipesOutOfRange(t *testing.T) {
	for _, pipes := range fewPipes() {
		for house, pipe := range pipes {
			for _, price := range pricesOutside() {
				wantNoneWith(t, pipes, house, impl.Pipe{Before: pipe.Before, Price: price})
			}
		}
	}
	for houses := 1; houses <= 4; houses++ {
		for _, befores := range treesOf(houses) {
			for _, price := range pricesOutside() {
				wantNoPipes(t, pipesOf(befores, slices.Repeat([]int{price}, houses)))
			}
		}
	}
	wantNoPipes(t, pipesOf([]int{-1, 0}, []int{-1, 13}))
	wantNoPipes(t, pipesOf([]int{-1, 0}, []int{13, -1}))
	wantNoPipes(t, pipesOf([]int{-1, 0, 1}, []int{math.MinInt, math.MinInt, 3}))
}

func TestHousesAndSetsThatAreNotThere(t *testing.T) {
	for _, pipes := range fewPipes() {
		for _, house := range peopleOutside(len(pipes)) {
			wantNoHouse(t, pipes, house)
		}
		for _, set := range setsOutside(len(pipes)) {
			wantNoCost(t, pipes, set)
		}
	}
}

// pipesByDefinition tells anew, from the sentence of the document, whether pipes are some.
func pipesByDefinition(pipes []impl.Pipe) bool {
	ok := len(pipes) == 1 || len(pipes) == 2 || len(pipes) == 3 || len(pipes) == 4
	for house, pipe := range pipes {
		ok = ok && slices.Contains(append(inOrder(house), -1), pipe.Before) && slices.Contains(inOrder(13), pipe.Price)
	}
	return ok
}

// drawnPipes returns up to 6 pipes, each to one and at one of some numbers, and with more of them to the spring than to others.
func drawnPipes(d *draws, numbers []int) []impl.Pipe {
	pipes := make([]impl.Pipe, d.below(7))
	for i := range pipes {
		before := d.below(5) - 1
		if d.below(3) == 0 {
			before = -1
		}
		if d.below(20) == 0 {
			before = numbers[d.below(len(numbers))]
		}
		pipes[i] = impl.Pipe{Before: before, Price: numbers[d.below(len(numbers))]}
	}
	return pipes
}

// Drawn numbers, many of them of no use, are given to all functions.
func TestNoArgumentPanicsInChapter12(t *testing.T) {
	defer mustPanicNot(t, "chapter 12")
	numbers := append(pricesOutside(), beforesOutside(2)...)
	numbers = append(numbers, slices.Repeat(inOrder(13), 40)...)
	d := draws(74)
	some, houses, sets := 0, 0, 0
	for range 200000 {
		pipes := drawnPipes(&d, numbers)
		house, set := numbers[d.below(len(numbers))], numbers[d.below(len(numbers))]
		if !pipesByDefinition(pipes) {
			wantNoPipes(t, pipes)
			wantNoHouse(t, pipes, house)
			wantNoCost(t, pipes, set)
			continue
		}
		some++
		if house >= 0 && house < len(pipes) {
			houses++
			way := waysByDefinition(pipes)[house]
			if x, deep := impl.WayOf(pipes, house), impl.DeepOf(pipes, house); x != setOf(way) || deep != len(way) {
				t.Fatal(pipes, house, x, deep, way)
			}
		} else {
			wantNoHouse(t, pipes, house)
		}
		if costs := costsByPipes(pipes); set >= 0 && set < len(costs) {
			sets++
			if x := impl.PipesCost(pipes, set); x != costs[set] {
				t.Fatal(pipes, set, x, costs)
			}
		} else {
			wantNoCost(t, pipes, set)
		}
		shares := sharesByPipes(pipes)
		if x, means := impl.PipeShares(pipes), impl.PipeOrders(pipes); !impl.PipesOk(pipes) || !slices.Equal(x, shares) || !slices.Equal(means, shares) {
			t.Fatal(pipes, shares, x, means)
		}
	}
	if some < 20000 || some > 180000 || houses < 1000 || sets < 1000 || houses > some-1000 || sets > some-1000 {
		t.Fatal("too few pipes, houses or sets, or too few others", some, houses, sets)
	}
}
