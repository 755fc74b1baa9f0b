package tests

import (
	"math"
	"slices"
	"testing"

	"loop.example/shortestates/impl"
)

// orderByDefinition tells anew, from the sentence of the document, which of two rows comes first.
func orderByDefinition(a, b []int) int {
	if len(a) != len(b) || len(a) > 16 {
		return 2
	}
	for i := range a {
		switch {
		case a[i] < b[i]:
			return -1
		case a[i] > b[i]:
			return 1
		}
	}
	return 0
}

// zerosAnd returns so many numbers of nothing, and some more behind them.
func zerosAnd(zeros int, numbers ...int) []int {
	return append(make([]int, zeros), numbers...)
}

// checkRowOrder checks of two rows what RowOrder returns for them, and for them exchanged.
func checkRowOrder(t *testing.T, a, b []int, want int) {
	t.Helper()
	if x := impl.RowOrder(a, b); x != want || orderByDefinition(a, b) != want {
		t.Fatal(a, b, want, x)
	}
	exchanged := -want
	if want == 2 {
		exchanged = 2
	}
	if x := impl.RowOrder(b, a); x != exchanged {
		t.Fatal("exchanged", a, b, exchanged, x)
	}
	if (impl.RowOrder(a, b) == 0) != (slices.Equal(a, b) && len(a) <= 16) {
		t.Fatal("equal", a, b)
	}
}

// turned returns the row with the other sign of each number.
func turned(row []int) []int {
	return less(make([]int, len(row)), row)
}

func TestOrderOfRowsByHand(t *testing.T) {
	for _, r := range []struct {
		a, b []int
		want int
	}{
		{nil, nil, 0},
		{[]int{}, nil, 0},
		{[]int{}, []int{}, 0},
		{[]int{1}, []int{1}, 0},
		{[]int{1}, []int{2}, -1},
		{[]int{-1}, []int{0}, -1},
		{[]int{-2}, []int{-1}, -1},
		{[]int{1, 2}, []int{1, 3}, -1},
		{[]int{1, 3}, []int{2, 0}, -1},
		{[]int{1, 9, 9}, []int{2, 0, 0}, -1},
		{[]int{1, 2, 9}, []int{1, 3, 0}, -1},
		{[]int{-48, -96}, []int{-48, -95}, -1},
		{[]int{0, -24, -24, -96, -120, -120}, []int{0, -24, -24, -96, -120, -120}, 0},
		{[]int{-48, -48, -48, -48, -96, -96}, []int{0, -24, -24, -96, -120, -120}, -1},
		{make([]int, 15), make([]int, 15), 0},
		{make([]int, 16), make([]int, 16), 0},
		{make([]int, 16), zerosAnd(15, 1), -1},
		{zerosAnd(15, -1), make([]int, 16), -1},
		{zerosAnd(14, 0, 9), zerosAnd(14, 1, 0), -1},
		{[]int{math.MinInt}, []int{math.MaxInt}, -1},
		{[]int{math.MinInt}, []int{1}, -1},
		{[]int{-2}, []int{math.MaxInt}, -1},
		{[]int{0}, []int{1 << 32}, -1},
		{[]int{1 << 32}, []int{1<<32 + 1}, -1},
		{[]int{math.MaxInt, math.MinInt}, []int{math.MaxInt, math.MaxInt}, -1},
		{[]int{math.MinInt, math.MinInt}, []int{math.MinInt, math.MinInt}, 0},
	} {
		checkRowOrder(t, r.a, r.b, r.want)
	}
}

func TestRowsThatHaveNoOrder(t *testing.T) {
	for _, r := range []struct{ a, b []int }{
		{nil, []int{0}}, {[]int{}, []int{1}}, {[]int{0}, []int{0, 0}}, {[]int{1}, []int{2, 0}}, {[]int{2}, []int{1, 0}},
		{[]int{1, 2}, []int{1, 2, 3}}, {make([]int, 15), make([]int, 16)}, {make([]int, 16), make([]int, 17)}, {zerosAnd(15, 1), make([]int, 17)},
		{make([]int, 17), make([]int, 17)}, {make([]int, 17), zerosAnd(16, 1)}, {make([]int, 17), append([]int{1}, make([]int, 16)...)},
		{make([]int, 18), make([]int, 18)}, {make([]int, 1000), make([]int, 1000)}, {make([]int, 1000), nil}, {make([]int, 17), make([]int, 1)},
	} {
		checkRowOrder(t, r.a, r.b, 2)
	}
	for first := range 20 {
		for second := range 20 {
			want := 2
			if first == second && first <= 16 {
				want = 0
			}
			checkRowOrder(t, make([]int, first), make([]int, second), want)
		}
	}
}

// Promise 35: of all rows of few numbers.
func TestOrdersAreTurnedWithTheRows(t *testing.T) {
	var rows [][]int
	for numbers := range 4 {
		rows = append(rows, claimRows(numbers, []int{-3, -1, 0, 2, 5})...)
	}
	for _, a := range rows {
		for _, b := range rows {
			want := orderByDefinition(a, b)
			checkRowOrder(t, a, b, want)
			if want != 2 {
				want = -want
			}
			checkRowOrder(t, turned(a), turned(b), want)
		}
	}
}

// Promise 35: of drawn rows that differ late, if they do. The least number of all is not drawn, since it has no other sign.
func TestOrdersOfLongRowsAreTurned(t *testing.T) {
	d := draws(38)
	numbers := []int{math.MinInt + 1, -1 << 32, -48, -1, 0, 0, 1, 2, 3, 48, 1 << 32, 1 << 62, math.MaxInt}
	for range 50000 {
		a := make([]int, d.below(18))
		for i := range a {
			a[i] = numbers[d.below(len(numbers))]
		}
		b := slices.Clone(a)
		for i := d.below(18); i < len(b); i += 1 + d.below(4) {
			b[i] = numbers[d.below(len(numbers))]
		}
		want := orderByDefinition(a, b)
		checkRowOrder(t, a, b, want)
		if want != 2 {
			want = -want
		}
		checkRowOrder(t, turned(a), turned(b), want)
	}
}
