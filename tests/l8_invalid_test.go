package tests

import (
	"math"
	"slices"
	"strings"
	"testing"

	"loop.example/shortestates/impl"
)

// wantNoRule checks of a word that is no rule what the functions of chapter 8 return for it.
func wantNoRule(t *testing.T, word string) {
	t.Helper()
	if impl.RuleOk(word) {
		t.Fatalf("ok %q", word)
	}
	if x := impl.SimplerRule(word); x != "" {
		t.Fatalf("simpler %q %q", word, x)
	}
	for _, c := range []impl.Case{caseOf(9, 2, 4, 6), caseOf(0, 0), caseOf(48, 12, 12, 12, 12), caseOf(3, 2, 4)} {
		if x := impl.RuleAwards(c, word); x != nil {
			t.Fatalf("awards %v %q %v", c, word, x)
		}
	}
}

func TestWordsThatAreNoRules(t *testing.T) {
	for _, word := range []string{
		"", "x", "xd", "ex", "exd", "edx", "E", "L", "H", "A", "ED", "eD", "eC", "eR", "Ed", "edC", "eddddddR",
		"d", "c", "r", "de", "ce", "re", "dd", "cc", "rr", "dcr", "cde", "rl", "dh", "ca", "dddddddd", "ddddddde",
		"ee", "el", "eh", "ea", "le", "hh", "ah", "ede", "edl", "ech", "era", "eel", "lcdce", "hddddddh",
		" ", "  ", " e", "e ", "e d", "ed ", " ed", "\t", "e\n", "\ne", "ed\n", "e\r", "e\x00", "\x00", "\x00e", "e\x00d",
		"\xff", "e\xff", "\xffe", "ed\xff", "\xe9", "é", "eé", "\u0435", "e\u0501", "ｅ", "e\u0301", "\xf0\x9f", "d\xff",
		"e,d", "e-d", "ed.", "e1", "1", "0", "e0", "-e", "even", "halves", "edcr;", "world", "her", "led?",
	} {
		wantNoRule(t, word)
	}
}

func TestWordsThatAreTooLong(t *testing.T) {
	for _, first := range firstOnes() {
		for _, later := range []string{"d", "c", "r", "dcr", "rcd", "e", first} {
			for _, letters := range []int{9, 10, 16, 255, 256, 257, 264, 1 << 16, 1<<16 + 1, 1 << 20} {
				wantNoRule(t, (first + strings.Repeat(later, letters))[:letters])
			}
		}
	}
	for _, rule := range rulesUpTo(8) {
		if len(rule) == 8 {
			wantNoRule(t, rule+"d")
			wantNoRule(t, rule+"c")
			wantNoRule(t, rule+"r")
			wantNoRule(t, rule+rule)
		}
	}
}

// Each byte is put at each place of rules of each length.
func TestEachByteAtEachPlace(t *testing.T) {
	for _, longest := range []string{"edcrdcrd", "lcccrrrd", "hrrrrrrr", "acdcdcdc"} {
		for letters := 1; letters <= 8; letters++ {
			for place := range letters {
				for letter := range 256 {
					word := []byte(longest[:letters])
					word[place] = byte(letter)
					if !ruleWord.Match(word) {
						wantNoRule(t, string(word))
					} else if !impl.RuleOk(string(word)) {
						t.Fatalf("%q", word)
					}
				}
			}
		}
	}
}

// The rules are some, so that only the case itself can be the reason.
func TestInvalidCasesOfChapter8(t *testing.T) {
	rules := append(rulesUpTo(3), "edcrdcrd", "lcdrcdrc", "hrrrrrrr", "adcdcdcd", "eddddddd", "lccccccc", "", "x", "edddddddd")
	for _, c := range invalidCases() {
		for _, rule := range rules {
			if x := impl.RuleAwards(c, rule); x != nil {
				t.Fatal(c, rule, x)
			}
		}
	}
}

// drawnWord returns a word of up to 10 drawn letters, most of which may stand where they are in a rule.
func drawnWord(d *draws) string {
	firsts, laters := "eeelllhhaadcrx\xff ", "dddddcccccrrrrreldcrD\x00"
	word := ""
	for range d.below(11) {
		letters := laters
		if word == "" {
			letters = firsts
		}
		place := d.below(len(letters))
		word += letters[place : place+1]
	}
	return word
}

// Drawn cases and words, many of them of no use, are given to all functions.
func TestNoArgumentPanicsInChapter8(t *testing.T) {
	defer mustPanicNot(t, "chapter 8")
	numbers := []int{math.MinInt, -1 << 32, -13, -1, 0, 0, 0, 1, 1, 2, 2, 3, 3, 4, 5, 12, 13, 48, 1 << 32, 1 << 62, math.MaxInt}
	d := draws(49)
	rules, awarded := 0, 0
	for range 200000 {
		c, word := caseOf(numbers[d.below(len(numbers))], drawnRow(&d, numbers)...), drawnWord(&d)
		if !ruleWord.MatchString(word) {
			wantNoRule(t, word)
			continue
		}
		rules++
		var awards []int
		if impl.CaseOk(c) {
			awards = ruleByDefinition(word)(c)
			awarded++
		}
		if x := impl.RuleAwards(c, word); !impl.RuleOk(word) || !slices.Equal(x, awards) {
			t.Fatal(c, word, x, awards)
		}
		if x := impl.SimplerRule(word); x != simplerByLetters(word) {
			t.Fatal(word, x)
		}
	}
	if rules < 10000 || awarded < 1000 {
		t.Fatal("too few rules", rules, awarded)
	}
}
