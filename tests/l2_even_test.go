package tests

import (
	"slices"
	"testing"

	"loop.example/shortestates/impl"
)

// inParts returns units in parts.
func inParts(units []int) []int {
	parts := make([]int, len(units))
	for i, number := range units {
		parts[i] = 48 * number
	}
	return parts
}

// less returns the numbers of a row less those of another one.
func less(row, other []int) []int {
	rest := make([]int, len(row))
	for i := range row {
		rest[i] = row[i] - other[i]
	}
	return rest
}

// oneMore returns the case with one unit more, and whether one more is owed.
func oneMore(c impl.Case) (impl.Case, bool) {
	return caseOf(c.Estate+1, c.Claims...), c.Estate < total(c.Claims)
}

// evenCase has what the functions of chapter 2 return for a case, reckoned by hand.
type evenCase struct {
	of        impl.Case
	awards    []int
	level     int
	losing    []int
	lossLevel int
}

func evenCases() []evenCase {
	return []evenCase{
		{caseOf(7, 2, 4, 6), []int{96, 120, 120}, 120, []int{16, 112, 208}, 80},
		{caseOf(9, 2, 4, 6), []int{96, 168, 168}, 168, []int{48, 144, 240}, 48},
		{caseOf(0, 2, 4, 6), []int{0, 0, 0}, 0, []int{0, 0, 0}, 288},
		{caseOf(12, 2, 4, 6), []int{96, 192, 288}, 288, []int{96, 192, 288}, 0},
		{caseOf(6, 2, 4, 6), []int{96, 96, 96}, 96, []int{0, 96, 192}, 96},
		{caseOf(11, 12, 1, 8), []int{240, 48, 240}, 240, []int{360, 0, 168}, 216},
		{caseOf(10, 1, 12), []int{48, 432}, 432, []int{0, 480}, 96},
		{caseOf(0, 0), []int{0}, 0, []int{0}, 0},
		{caseOf(0, 12), []int{0}, 0, []int{0}, 576},
		{caseOf(7, 12), []int{336}, 336, []int{336}, 240},
		{caseOf(12, 12), []int{576}, 576, []int{576}, 0},
		{caseOf(5, 6, 6, 6), []int{80, 80, 80}, 80, []int{80, 80, 80}, 208},
		{caseOf(5, 3, 3, 0, 7), []int{80, 80, 0, 80}, 80, []int{16, 16, 0, 208}, 128},
		{caseOf(6, 0, 6, 0, 6), []int{0, 144, 0, 144}, 144, []int{0, 144, 0, 144}, 144},
		{caseOf(0, 0, 0, 0, 0), []int{0, 0, 0, 0}, 0, []int{0, 0, 0, 0}, 0},
		{caseOf(1, 12, 12, 12, 12), []int{12, 12, 12, 12}, 12, []int{12, 12, 12, 12}, 564},
		{caseOf(48, 12, 12, 12, 12), []int{576, 576, 576, 576}, 576, []int{576, 576, 576, 576}, 0},
	}
}

func TestEvenCasesByHand(t *testing.T) {
	for _, r := range evenCases() {
		if x := impl.EvenAwards(r.of); !slices.Equal(x, r.awards) {
			t.Fatal("awards", r.of, x)
		}
		if x := impl.EvenLevel(r.of); x != r.level {
			t.Fatal("level", r.of, x)
		}
		if x := impl.EvenLosses(r.of); !slices.Equal(x, r.losing) {
			t.Fatal("losses", r.of, x)
		}
		if x := impl.LossLevel(r.of); x != r.lossLevel {
			t.Fatal("level of losses", r.of, x)
		}
	}
}

// Promise 11. That no awards are more even is also told without MoreEven of the program.
func TestNoAwardsAreMoreEven(t *testing.T) {
	d := draws(11)
	for _, c := range validCases() {
		even, level := impl.EvenAwards(c), impl.EvenLevel(c)
		if len(even) != len(c.Claims) || !impl.AwardsOk(c, even) {
			t.Fatal(c, even)
		}
		for i, claim := range c.Claims {
			if even[i] != min(48*claim, level) {
				t.Fatal(c, even, level)
			}
		}
		for range 3 {
			drawn := drawnAwards(&d, c)
			if !impl.MoreEven(even, drawn) || !moreEvenByDefinition(even, drawn) {
				t.Fatal(c, even, drawn)
			}
			if !slices.Equal(drawn, even) && impl.MoreEven(drawn, even) {
				t.Fatal("no others are as even", c, even, drawn)
			}
		}
	}
}

// Promise 12.
func TestLevelRisesWithTheEstate(t *testing.T) {
	for _, c := range validCases() {
		level := impl.EvenLevel(c)
		if level < 0 || level != slices.Max(impl.EvenAwards(c)) {
			t.Fatal(c, level)
		}
		if more, owed := oneMore(c); owed && impl.EvenLevel(more) < level {
			t.Fatal(c, level, impl.EvenLevel(more))
		}
	}
}

// Promise 13.
func TestNoLossesAreMoreEven(t *testing.T) {
	d := draws(13)
	for _, c := range validCases() {
		awards := impl.EvenLosses(c)
		losses := impl.LossesOf(c, awards)
		other, _ := impl.OtherCase(c)
		if len(awards) != len(c.Claims) || !impl.AwardsOk(c, awards) || !slices.Equal(losses, impl.EvenAwards(other)) {
			t.Fatal(c, awards, losses)
		}
		for range 3 {
			drawn := drawnAwards(&d, c)
			lost := impl.LossesOf(c, drawn)
			if !impl.MoreEven(losses, lost) || !moreEvenByDefinition(losses, lost) {
				t.Fatal(c, losses, lost)
			}
			if !slices.Equal(drawn, awards) && impl.MoreEven(lost, losses) {
				t.Fatal("no others lose as evenly", c, losses, lost)
			}
		}
	}
}

// Promise 16.
func TestLossesAreUpToALevel(t *testing.T) {
	for _, c := range validCases() {
		level := impl.LossLevel(c)
		losses := less(inParts(c.Claims), impl.EvenLosses(c))
		for i, claim := range c.Claims {
			if losses[i] != min(48*claim, level) {
				t.Fatal(c, losses, level)
			}
		}
		if level != slices.Max(losses) {
			t.Fatal(c, losses, level)
		}
		if more, owed := oneMore(c); owed && impl.LossLevel(more) > level {
			t.Fatal(c, level, impl.LossLevel(more))
		}
	}
}

// Promise 17.
func TestNamesChangeNoAwards(t *testing.T) {
	for _, c := range validCases() {
		even, losing := impl.EvenAwards(c), impl.EvenLosses(c)
		for _, order := range ordersOf(len(c.Claims)) {
			named, _ := impl.NamedCase(c, order)
			namedEven, namedLosing := impl.EvenAwards(named), impl.EvenLosses(named)
			if len(namedEven) != len(order) || len(namedLosing) != len(order) {
				t.Fatal(c, order, namedEven, namedLosing)
			}
			for i, place := range order {
				if namedEven[place] != even[i] || namedLosing[place] != losing[i] {
					t.Fatal(c, order, even, namedEven, losing, namedLosing)
				}
			}
		}
	}
}

// Promise 18.
func TestCutClaimsAndRightsChangeNothing(t *testing.T) {
	for _, c := range validCases() {
		cut, _ := impl.CutCase(c)
		if even, x := impl.EvenAwards(c), impl.EvenAwards(cut); len(even) == 0 || !slices.Equal(even, x) {
			t.Fatal(c, cut, even, x)
		}
		left, _ := impl.RestCase(c)
		losing, rest := impl.EvenLosses(c), impl.EvenLosses(left)
		if len(losing) == 0 || !slices.Equal(less(losing, inParts(impl.RightsOf(c))), rest) {
			t.Fatal(c, left, losing, rest)
		}
	}
}
