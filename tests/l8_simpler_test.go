package tests

import (
	"slices"
	"strings"
	"testing"

	"loop.example/shortestates/impl"
)

// simplerEnd tells anew what stands for the last two letters of a word, and whether anything simpler does.
func simplerEnd(word string) (string, bool) {
	if len(word) < 2 {
		return "", false
	}
	before, last := word[len(word)-2:len(word)-1], word[len(word)-1:]
	switch {
	case before == "h" || before == "a", before == "e" && last == "c", before == "l" && last == "r":
		return before, true
	case before == "e" && last == "d":
		return "l", true
	case before == "l" && last == "d":
		return "e", true
	case before == "d" && last == "d":
		return "", true
	case before == last:
		return last, true
	}
	return "", false
}

// simplerByLetters tells anew a rule made simpler, letter by letter from the first one on: what has been read is simple already, so that only its end can be changed. At whatever place a rule is changed first, it is the same in the end.
func simplerByLetters(rule string) string {
	word := ""
	for i := range len(rule) {
		word += rule[i : i+1]
		for end, ok := simplerEnd(word); ok; end, ok = simplerEnd(word) {
			word = word[:len(word)-2] + end
		}
	}
	return word
}

// simplerPairs returns the letters behind each other of which none are left in a rule made simpler.
func simplerPairs() []string {
	return []string{"ec", "ed", "lr", "ld", "hd", "hc", "hr", "ad", "ac", "ar", "dd", "cc", "rr"}
}

func TestSimplerRulesByHand(t *testing.T) {
	for _, r := range []struct{ rule, simpler string }{
		// Rules of one letter, and letters that change nothing.
		{"e", "e"}, {"l", "l"}, {"h", "h"}, {"a", "a"},
		{"ec", "e"}, {"lr", "l"}, {"hd", "h"}, {"hc", "h"}, {"hr", "h"}, {"ad", "a"}, {"ac", "a"}, {"ar", "a"},
		{"er", "er"}, {"lc", "lc"}, {"ed", "l"}, {"ld", "e"},
		{"err", "er"}, {"lcc", "lc"}, {"errr", "er"}, {"lccc", "lc"},
		{"erc", "erc"}, {"lcr", "lcr"}, {"erd", "erd"}, {"lcd", "lcd"},
		{"erdc", "erdc"}, {"lcdr", "lcdr"}, {"erdr", "erdr"}, {"lcdc", "lcdc"}, {"ercr", "ercr"}, {"lcrc", "lcrc"},
		// A c or an r is taken away only just behind the first letter.
		{"erdcd", "erdcd"}, {"lcdrd", "lcdrd"}, {"ercd", "ercd"}, {"lcrd", "lcrd"},
		// The first letter changes with d behind it, and others fit then.
		{"edd", "e"}, {"ldd", "l"}, {"eddd", "l"}, {"lddd", "e"}, {"eddddddd", "l"}, {"ldddddd", "l"},
		{"edc", "lc"}, {"edr", "l"}, {"ldr", "er"}, {"ldc", "e"}, {"edrr", "l"}, {"ldcc", "e"}, {"edcr", "lcr"}, {"ldrc", "erc"},
		{"edrd", "e"}, {"ldcd", "l"}, {"edrdc", "e"}, {"ldcdr", "l"}, {"edrdcdrd", "e"}, {"edrdr", "er"}, {"ldcdc", "lc"},
		// What stood apart comes together.
		{"erdd", "er"}, {"lcdd", "lc"}, {"ercddc", "erc"}, {"lcrddr", "lcr"}, {"erddr", "er"}, {"lcddc", "lc"},
		{"erdrrd", "erdrd"}, {"erddd", "erd"}, {"ercdddd", "erc"}, {"erddcdd", "erc"}, {"lcddrddc", "lcrc"}, {"erddrddr", "er"},
		{"ecdd", "e"}, {"ecd", "l"}, {"ecdr", "l"}, {"ecdc", "lc"}, {"lrd", "e"}, {"lrdc", "e"}, {"lrdr", "er"},
		{"ecccrrrr", "er"}, {"lrrrcccc", "lc"}, {"eccrrddc", "erc"}, {"lrrccddr", "lcr"},
		// Words that stay as long as they may be.
		{"erdrdrdr", "erdrdrdr"}, {"lcdcdcdc", "lcdcdcdc"}, {"erdcrdcr", "erdcrdcr"}, {"lcrcrcrd", "lcrcrcrd"},
		{"ercrcrcc", "ercrcrc"}, {"lcrcrcdd", "lcrcrc"}, {"hdcrdcrd", "h"}, {"acccrrrd", "a"}, {"hdd", "h"}, {"arcdcrd", "a"},
	} {
		if x := impl.SimplerRule(r.rule); x != r.simpler {
			t.Fatal(r, x)
		}
	}
}

// checkSimpler checks promise 48 of a rule and drawn cases, and how it is made simpler.
func checkSimpler(t *testing.T, d *draws, rule string, cases []impl.Case) {
	t.Helper()
	simpler := impl.SimplerRule(rule)
	if !ruleWord.MatchString(simpler) || !impl.RuleOk(simpler) || len(simpler) > len(rule) {
		t.Fatal(rule, simpler)
	}
	if x := impl.SimplerRule(simpler); x != simpler {
		t.Fatal("again", rule, simpler, x)
	}
	if want := simplerByLetters(rule); simpler != want {
		t.Fatal("by letters", rule, simpler, want)
	}
	for _, pair := range simplerPairs() {
		if strings.Contains(simpler, pair) {
			t.Fatal("simpler still", rule, simpler, pair)
		}
	}
	for range 3 {
		c := cases[d.below(len(cases))]
		sameAwards(t, c, simpler, impl.RuleAwards(c, rule))
	}
}

// Promise 48: of all rules.
func TestSimplerRulesAwardTheSame(t *testing.T) {
	d := draws(47)
	cases := validCases()
	for _, rule := range rulesUpTo(8) {
		checkSimpler(t, &d, rule, cases)
	}
}

// Promise 48: of all cases, with drawn rules.
func TestSimplerRulesAwardTheSameInEachCase(t *testing.T) {
	d := draws(48)
	rules := rulesUpTo(8)
	for _, c := range validCases() {
		rule := rules[d.below(len(rules))]
		sameAwards(t, c, impl.SimplerRule(rule), impl.RuleAwards(c, rule))
	}
}

// A rule without letters behind each other for which something simpler stands is simple already.
func TestSimpleRulesStay(t *testing.T) {
	simple := 0
	for _, rule := range rulesUpTo(8) {
		fits := slices.ContainsFunc(simplerPairs(), func(pair string) bool { return strings.Contains(rule, pair) })
		if x := impl.SimplerRule(rule); (x == rule) == fits {
			t.Fatal(rule, x)
		}
		if !fits {
			simple++
		}
	}
	// h and a alone; e and l with r or c behind it, if there is one, and two letters that may stand behind each further one.
	if simple != 2+2*(1+1+2+4+8+16+32+64) {
		t.Fatal("simple rules", simple)
	}
}

// Promise 49.
func TestFourRulesAreLeftOfWordsWithoutCAndR(t *testing.T) {
	turned := map[string]string{"e": "l", "l": "e", "h": "h", "a": "a"}
	for _, first := range firstOnes() {
		want := first
		for letters := range 8 {
			if x := impl.SimplerRule(first + strings.Repeat("d", letters)); x != want {
				t.Fatal(first, letters, x, want)
			}
			want = turned[want]
		}
	}
}
