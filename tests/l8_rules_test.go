package tests

import (
	"regexp"
	"strings"
	"testing"

	"loop.example/shortestates/impl"
)

// ruleWord tells anew, from the sentence of the document, which words are rules.
var ruleWord = regexp.MustCompile(`\A[elha][dcr]{0,7}\z`)

// firstOnes returns the four rules of one letter.
func firstOnes() []string {
	return []string{"e", "l", "h", "a"}
}

// rulesUpTo returns all rules of at most so many letters.
func rulesUpTo(letters int) []string {
	rules, longest := firstOnes(), firstOnes()
	for range letters - 1 {
		var longer []string
		for _, rule := range longest {
			longer = append(longer, rule+"d", rule+"c", rule+"r")
		}
		longest = longer
		rules = append(rules, longest...)
	}
	return rules
}

// wordsUpTo returns all words of at most so many letters of an alphabet, that without letters among them.
func wordsUpTo(letters int, alphabet string) []string {
	words, longest := []string{""}, []string{""}
	for range letters {
		var longer []string
		for _, word := range longest {
			for i := range len(alphabet) {
				longer = append(longer, word+alphabet[i:i+1])
			}
		}
		longest = longer
		words = append(words, longest...)
	}
	return words
}

func TestConstantOfRules(t *testing.T) {
	if impl.MaxWord != 8 {
		t.Fatal(impl.MaxWord)
	}
}

func TestRulesByHand(t *testing.T) {
	for _, r := range []struct {
		word string
		ok   bool
	}{
		{"e", true}, {"l", true}, {"h", true}, {"a", true},
		{"ed", true}, {"ec", true}, {"er", true}, {"ld", true}, {"hc", true}, {"ar", true},
		{"edcr", true}, {"lrcd", true}, {"hddd", true}, {"accc", true}, {"errr", true},
		{"edcrdcr", true}, {"eddddddd", true}, {"lccccccc", true}, {"hrrrrrrr", true}, {"adcrdcrd", true},
		{"edddddddd", false}, {"lcccccccc", false}, {"hrrrrrrrr", false}, {"adcrdcrdc", false},
		{"", false}, {"d", false}, {"c", false}, {"r", false}, {"de", false}, {"dd", false}, {"dcr", false},
		{"ee", false}, {"el", false}, {"edh", false}, {"eda", false}, {"lcel", false}, {"x", false}, {"ex", false}, {"exd", false},
	} {
		if x := impl.RuleOk(r.word); x != r.ok {
			t.Fatal(r, x)
		}
	}
}

// Promise 46.
func TestOneLetterIsARule(t *testing.T) {
	for _, rule := range firstOnes() {
		if !impl.RuleOk(rule) {
			t.Fatal(rule)
		}
	}
	rules := rulesUpTo(8)
	for _, rule := range rules {
		if !impl.RuleOk(rule) {
			t.Fatal(rule)
		}
		for _, letter := range []string{"d", "c", "r"} {
			if x := impl.RuleOk(rule + letter); x != (len(rule) < 8) {
				t.Fatal("with a letter behind it", rule, letter, x)
			}
		}
	}
	// There are 4 rules of one letter, and for each letter more 3 times as many.
	if len(rules) != 13120 {
		t.Fatal("not all rules", len(rules))
	}
}

func TestRulesByDefinition(t *testing.T) {
	for _, word := range append(wordsUpTo(4, "elhadcrx E\xff"), rulesUpTo(8)...) {
		if x := impl.RuleOk(word); x != ruleWord.MatchString(word) {
			t.Fatalf("%q %v", word, x)
		}
	}
	for letters := range 20 {
		for _, first := range firstOnes() {
			if x := impl.RuleOk(first + strings.Repeat("d", letters)); x != (letters <= 7) {
				t.Fatal(first, letters, x)
			}
		}
	}
}
