package tests

import (
	"math"
	"reflect"
	"slices"
	"testing"

	"loop.example/shortestates/impl"
)

// draws is a generator with a fixed start, so that drawn tests are the same each time.
type draws uint64

// below returns a drawn number in 0..n-1.
func (d *draws) below(n int) int {
	*d = *d*6364136223846793005 + 1442695040888963407
	return int(uint64(*d) >> 33 % uint64(n))
}

func total(row []int) int {
	sum := 0
	for _, number := range row {
		sum += number
	}
	return sum
}

func caseOf(estate int, claims ...int) impl.Case {
	return impl.Case{Estate: estate, Claims: claims}
}

func copyOf(c impl.Case) impl.Case {
	return impl.Case{Estate: c.Estate, Claims: slices.Clone(c.Claims)}
}

func sameCase(a, b impl.Case) bool {
	return a.Estate == b.Estate && slices.Equal(a.Claims, b.Claims)
}

// claimRows returns all rows of so many claims out of some amounts.
func claimRows(people int, amounts []int) [][]int {
	rows := [][]int{{}}
	for range people {
		var longer [][]int
		for _, row := range rows {
			for _, amount := range amounts {
				longer = append(longer, append(slices.Clone(row), amount))
			}
		}
		rows = longer
	}
	return rows
}

// validCases returns all cases of one or two people, and those of more people whose claims are of a few amounts, edges among them.
func validCases() []impl.Case {
	all := make([]int, impl.MaxClaim+1)
	for i := range all {
		all[i] = i
	}
	amounts := [][]int{all, all, {0, 1, 2, 3, 5, 7, 11, 12}, {0, 1, 4, 9, 12}}
	var cases []impl.Case
	for i, some := range amounts {
		for _, claims := range claimRows(i+1, some) {
			for estate := 0; estate <= total(claims); estate++ {
				cases = append(cases, caseOf(estate, claims...))
			}
		}
	}
	return cases
}

// invalidCases returns values that are no cases, each for one reason, and some whose claims wrap around when they are summed.
func invalidCases() []impl.Case {
	cases := []impl.Case{
		{}, {Claims: []int{}}, caseOf(1), caseOf(-1),
		caseOf(0, 0, 0, 0, 0, 0), caseOf(5, 1, 2, 3, 4, 5), {Claims: make([]int, 1000)},
	}
	for _, claim := range []int{-1, -12, math.MinInt, 13, 48, 1 << 32, 1<<32 + 1, math.MaxInt} {
		cases = append(cases, caseOf(0, claim), caseOf(1, 6, claim), caseOf(1, claim, 6, 6), caseOf(0, 6, 6, 6, claim))
	}
	for _, estate := range []int{-1, math.MinInt, 13, 49, 1 << 32, 1<<32 + 6, math.MaxInt} {
		cases = append(cases, caseOf(estate, 12), caseOf(estate, 2, 4, 6))
	}
	return append(cases,
		caseOf(49, 12, 12, 12, 12), caseOf(1, 0), caseOf(1, 0, 0, 0, 0),
		caseOf(0, 1<<62, 1<<62, 1<<62, 1<<62),
		caseOf(5, math.MaxInt, math.MaxInt, 7),
		caseOf(2, -4, 6), caseOf(3, 14, -11), caseOf(0, math.MinInt, math.MinInt),
	)
}

// ordersOf returns all orders of so many people.
func ordersOf(people int) [][]int {
	if people == 0 {
		return [][]int{{}}
	}
	var orders [][]int
	for _, order := range ordersOf(people - 1) {
		for place := range people {
			orders = append(orders, slices.Insert(slices.Clone(order), place, people-1))
		}
	}
	return orders
}

// meansOver returns for each person the mean, over some orders, of what a row has for the person in the order, and whether all of these are whole.
func meansOver(orders [][]int, rowOf func(order []int) []int) ([]int, bool) {
	means := make([]int, len(orders[0]))
	for _, order := range orders {
		for person, number := range rowOf(order) {
			means[person] += number
		}
	}
	whole := true
	for person, sum := range means {
		whole = whole && sum%len(orders) == 0
		means[person] = sum / len(orders)
	}
	return means, whole
}

// drawnAwards returns drawn awards of a case: the estate is given away in an order, and then parts are moved about.
func drawnAwards(d *draws, c impl.Case) []int {
	people := len(c.Claims)
	awards := make([]int, people)
	left := impl.Parts * c.Estate
	orders := ordersOf(people)
	for _, person := range orders[d.below(len(orders))] {
		awards[person] = min(left, impl.Parts*c.Claims[person])
		left -= awards[person]
	}
	for range d.below(4) {
		from, to := d.below(people), d.below(people)
		most := min(awards[from], impl.Parts*c.Claims[to]-awards[to])
		moved := d.below(most + 1)
		awards[from] -= moved
		awards[to] += moved
	}
	return awards
}

// drawnNames returns a case with other places for the people, by a drawn order, and its awards at these places.
func drawnNames(d *draws, c impl.Case, awards []int) (impl.Case, []int) {
	orders := ordersOf(len(c.Claims))
	order := orders[d.below(len(orders))]
	named, _ := impl.NamedCase(c, order)
	namedAwards := slices.Clone(awards)
	for i, place := range order {
		namedAwards[place] = awards[i]
	}
	return named, namedAwards
}

// drawnRow returns up to 6 numbers, each drawn out of some.
func drawnRow(d *draws, numbers []int) []int {
	row := make([]int, d.below(7))
	for i := range row {
		row[i] = numbers[d.below(len(numbers))]
	}
	return row
}

// checkNewMemory checks of a call that returns rows of so many numbers that spoiled results change neither the memory of its arguments nor other results, and that arguments that change later change no results.
func checkNewMemory(t *testing.T, what any, numbers int, memories [][]int, call func() [][]int) {
	t.Helper()
	before := cloneRows(memories)
	want := cloneRows(call())
	first, second := call(), call()
	for i := range first {
		if len(first[i]) != numbers || !slices.Equal(first[i], want[i]) {
			t.Fatal(what, i, first[i], want[i])
		}
		spoil(first[i])
	}
	for i := range memories {
		if !slices.Equal(memories[i], before[i]) {
			t.Fatal("an argument is written to", what, i, memories[i])
		}
		spoil(memories[i])
	}
	for i := range second {
		if !slices.Equal(second[i], want[i]) {
			t.Fatal("a result shares memory", what, i, second[i], want[i])
		}
	}
}

// checkArgumentsStay checks of a call that it writes to no claims and awards, of cases and others, and that it tells the same when called again.
func checkArgumentsStay(t *testing.T, d draws, call func(c impl.Case, awards []int) any) {
	t.Helper()
	for _, c := range append(validCases(), invalidCases()...) {
		before := copyOf(c)
		awards := []int{48 * d.below(3), 48 * d.below(3), 48 * d.below(3)}
		if impl.CaseOk(c) {
			awards = drawnAwards(&d, c)
		}
		awardsBefore := slices.Clone(awards)
		first, second := call(c, awards), call(c, awards)
		if !sameCase(c, before) || !slices.Equal(awards, awardsBefore) {
			t.Fatal("an argument is written to", before, c, awardsBefore, awards)
		}
		if !reflect.DeepEqual(first, second) {
			t.Fatal("called again", c, awards, first, second)
		}
	}
}

func mustPanicNot(t *testing.T, what string) {
	if r := recover(); r != nil {
		t.Fatalf("%s panicked: %v", what, r)
	}
}
