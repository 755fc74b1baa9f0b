package tests

import (
	"slices"
	"testing"

	"loop.example/shortestates/impl"
)

// otherOf tells anew the other case of a case.
func otherOf(c impl.Case) impl.Case {
	return caseOf(total(c.Claims)-c.Estate, c.Claims...)
}

// cutOf tells anew a case with cut claims.
func cutOf(c impl.Case) impl.Case {
	var claims []int
	for _, claim := range c.Claims {
		claims = append(claims, min(claim, c.Estate))
	}
	return caseOf(c.Estate, claims...)
}

// rightsGiven tells anew what rights the people of a case have, and the case that is left then.
func rightsGiven(c impl.Case) ([]int, impl.Case) {
	var rights []int
	for _, claim := range c.Claims {
		rights = append(rights, max(0, c.Estate-(total(c.Claims)-claim)))
	}
	return rights, caseOf(c.Estate-total(rights), less(c.Claims, rights)...)
}

// firstByLetter returns the rule of one letter that the other chapters tell.
func firstByLetter(letter byte) func(impl.Case) []int {
	switch letter {
	case 'e':
		return impl.EvenAwards
	case 'l':
		return impl.EvenLosses
	case 'h':
		return impl.HalfAwards
	}
	return impl.ArrivalAwards
}

// ruleByDefinition tells anew, from the sentences of the document, how a rule awards: from its first letter on, each letter turns the rule before it.
func ruleByDefinition(rule string) func(impl.Case) []int {
	awards := firstByLetter(rule[0])
	for _, letter := range rule[1:] {
		before := awards
		switch letter {
		case 'd':
			awards = func(c impl.Case) []int { return less(inParts(c.Claims), before(otherOf(c))) }
		case 'c':
			awards = func(c impl.Case) []int { return before(cutOf(c)) }
		case 'r':
			awards = func(c impl.Case) []int {
				rights, left := rightsGiven(c)
				return less(before(left), less(make([]int, len(rights)), inParts(rights)))
			}
		}
	}
	return awards
}

// ruledCase has awards of a case by some rules, reckoned by hand.
type ruledCase struct {
	of     impl.Case
	rules  []string
	awards []int
}

func ruledCases() []ruledCase {
	return append(ruledCasesOfThree(), []ruledCase{
		// Of two people cut claims and rights lead to halves.
		{caseOf(11, 1, 12), []string{"e", "ld", "ec", "edd"}, []int{48, 480}},
		{caseOf(11, 1, 12), []string{"l", "ed", "lr", "ldd"}, []int{0, 528}},
		{caseOf(11, 1, 12), []string{"h", "a", "er", "lc", "erd", "lcd", "edc", "ldr", "lcr", "lrc", "adcrdcrd", "hrcdrcdr", "edcrdcrd"}, []int{24, 504}},
		{caseOf(2, 1, 12), []string{"er", "lc", "h", "a"}, []int{24, 72}},
		// Four people.
		{caseOf(20, 1, 5, 9, 12), []string{"e", "ec", "ld", "edddd"}, []int{48, 240, 336, 336}},
		{caseOf(20, 1, 5, 9, 12), []string{"er", "err", "errrrrrr", "lcd", "lcddddd", "erc", "ercc"}, []int{48, 192, 288, 432}},
		{caseOf(20, 1, 5, 9, 12), []string{"l", "ed", "lr", "lc", "lcdddddd", "eddddddd", "erd", "erdc"}, []int{0, 144, 336, 480}},
		{caseOf(20, 1, 5, 9, 12), []string{"h", "hd", "hcrdcrdc"}, []int{24, 136, 328, 472}},
		{caseOf(7, 1, 5, 9, 12), []string{"lc", "edc", "erd"}, []int{0, 48, 144, 144}},
		// A claim of nothing.
		{caseOf(7, 0, 3, 9), []string{"e", "ec", "ld"}, []int{0, 144, 192}},
		{caseOf(7, 0, 3, 9), []string{"l", "lr", "ed"}, []int{0, 24, 312}},
		{caseOf(7, 0, 3, 9), []string{"er", "lc", "h", "a"}, []int{0, 72, 264}},
		{caseOf(13, 9, 0, 9), []string{"e", "l", "er", "lc", "hdcr", "adcr"}, []int{312, 0, 312}},
		{caseOf(0, 0, 0, 0, 0), []string{"e", "l", "h", "a", "edcrdcrd"}, []int{0, 0, 0, 0}},
		// An estate of nothing, and one of all claims together.
		{caseOf(0, 2, 4, 6), []string{"e", "l", "h", "a", "ed", "lc", "er", "ldcrdcrd"}, []int{0, 0, 0}},
		{caseOf(12, 2, 4, 6), []string{"e", "l", "h", "a", "ed", "lc", "er", "ldcrdcrd"}, []int{96, 192, 288}},
		{caseOf(48, 12, 12, 12, 12), []string{"e", "l", "h", "a", "erdc", "lcrd"}, []int{576, 576, 576, 576}},
		{caseOf(30, 12, 12, 12, 12), []string{"e", "l", "h", "a", "erdc", "lcrd"}, []int{360, 360, 360, 360}},
		{caseOf(1, 12, 12, 12, 12), []string{"e", "l", "h", "a", "erdc", "lcrd"}, []int{12, 12, 12, 12}},
		// One person alone.
		{caseOf(0, 0), []string{"e", "l", "h", "a", "erdc", "lcrd"}, []int{0}},
		{caseOf(0, 12), []string{"e", "l", "h", "a", "erdc", "lcrd"}, []int{0}},
		{caseOf(7, 12), []string{"e", "l", "h", "a", "erdc", "lcrd", "adcrdcrd"}, []int{336}},
		{caseOf(12, 12), []string{"e", "l", "h", "a", "erdc", "lcrd"}, []int{576}},
	}...)
}

func ruledCasesOfThree() []ruledCase {
	return []ruledCase{
		{caseOf(9, 2, 4, 6), []string{"e", "ec", "ld", "edd"}, []int{96, 168, 168}},
		{caseOf(9, 2, 4, 6), []string{"l", "ed", "lr", "lcr", "erdr"}, []int{48, 144, 240}},
		{caseOf(9, 2, 4, 6), []string{"h", "hd", "hdcr"}, []int{48, 144, 240}},
		{caseOf(9, 2, 4, 6), []string{"a", "ad", "arrc"}, []int{64, 136, 232}},
		{caseOf(9, 2, 4, 6), []string{"er", "lcd", "err", "erc"}, []int{80, 128, 224}},
		{caseOf(9, 6, 2, 4), []string{"er", "lcd"}, []int{224, 80, 128}},
		{caseOf(3, 2, 4, 6), []string{"e", "er", "h", "lcd", "lcdc", "erc"}, []int{48, 48, 48}},
		{caseOf(3, 2, 4, 6), []string{"l", "ed", "lr"}, []int{0, 24, 120}},
		{caseOf(3, 2, 4, 6), []string{"lc", "lccccccc", "edc", "erd", "lrc"}, []int{16, 64, 64}},
		{caseOf(3, 2, 4, 6), []string{"a", "ac", "ad"}, []int{32, 56, 56}},
		{caseOf(7, 2, 4, 6), []string{"ed", "l", "lc", "erd"}, []int{16, 112, 208}},
		{caseOf(7, 2, 4, 6), []string{"er", "lcd", "erc"}, []int{96, 96, 144}},
		{caseOf(7, 2, 4, 6), []string{"e", "ld"}, []int{96, 120, 120}},
		{caseOf(5, 2, 4, 6), []string{"lc", "edc", "lcr", "lrc", "erd"}, []int{0, 96, 144}},
		{caseOf(5, 2, 4, 6), []string{"l", "ed", "lr", "ecd"}, []int{0, 72, 168}},
		{caseOf(5, 2, 4, 6), []string{"e", "ec", "er", "ld"}, []int{80, 80, 80}},
		{caseOf(5, 2, 4, 6), []string{"h"}, []int{48, 96, 96}},
		{caseOf(5, 2, 4, 6), []string{"a"}, []int{40, 88, 112}},
	}
}

func TestAwardsByRulesByHand(t *testing.T) {
	for _, r := range ruledCases() {
		for _, rule := range r.rules {
			if x := impl.RuleAwards(r.of, rule); !slices.Equal(x, r.awards) {
				t.Fatal(r, rule, x)
			}
		}
	}
}

// sameAwards checks that a rule awards a case as told, or that there are no awards if it has too many letters.
func sameAwards(t *testing.T, c impl.Case, rule string, awards []int) {
	t.Helper()
	if len(rule) > 8 {
		awards = nil
	}
	if x := impl.RuleAwards(c, rule); !slices.Equal(x, awards) {
		t.Fatal(c, rule, x, awards)
	}
}

// checkRule checks promise 47 of a case and a rule, and what the rule awards.
func checkRule(t *testing.T, c impl.Case, rule string) {
	t.Helper()
	awards := impl.RuleAwards(c, rule)
	if !impl.AwardsOk(c, awards) {
		t.Fatal("no awards", c, rule, awards)
	}
	sameAwards(t, c, rule, ruleByDefinition(rule)(c))
	sameAwards(t, c, rule+"dd", awards)
	sameAwards(t, c, rule+"dr", impl.RuleAwards(c, rule+"cd"))
	sameAwards(t, c, rule+"dc", impl.RuleAwards(c, rule+"rd"))
}

// Promise 47: of all rules, with drawn cases.
func TestTurnedCuttingIsGivingRights(t *testing.T) {
	d := draws(44)
	cases := validCases()
	for _, rule := range rulesUpTo(8) {
		for range 3 {
			checkRule(t, cases[d.below(len(cases))], rule)
		}
	}
}

// Promise 47: of all cases, with the rules of one letter, with one more letter each, and with drawn rules.
func TestTurnedCuttingIsGivingRightsInEachCase(t *testing.T) {
	d := draws(45)
	rules, short := rulesUpTo(8), rulesUpTo(2)
	for place, c := range validCases() {
		checkRule(t, c, firstOnes()[place%4])
		checkRule(t, c, short[place%len(short)])
		checkRule(t, c, rules[d.below(len(rules))])
	}
}

// Rules of one letter are those of the other chapters.
func TestRulesOfOneLetterAwardAsTheirChapters(t *testing.T) {
	for _, c := range validCases() {
		sameAwards(t, c, "e", impl.EvenAwards(c))
		sameAwards(t, c, "l", impl.EvenLosses(c))
		sameAwards(t, c, "h", impl.HalfAwards(c))
		sameAwards(t, c, "a", impl.ArrivalAwards(c))
	}
}

// With other places for the people a rule awards the same at these places.
func TestNamesChangeNoAwardsByRules(t *testing.T) {
	d := draws(46)
	cases := validCases()
	for _, rule := range rulesUpTo(8) {
		c := cases[d.below(len(cases))]
		named, namedAwards := drawnNames(&d, c, impl.RuleAwards(c, rule))
		sameAwards(t, named, rule, namedAwards)
	}
}
