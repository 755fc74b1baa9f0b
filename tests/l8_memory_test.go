package tests

import (
	"slices"
	"testing"
	"unsafe"

	"loop.example/shortestates/impl"
)

// awardsByAll returns the awards of a case by each of some rules.
func awardsByAll(c impl.Case, rules []string) [][]int {
	var rows [][]int
	for _, rule := range rules {
		rows = append(rows, impl.RuleAwards(c, rule))
	}
	return rows
}

// Spoiled results change neither arguments nor other results, and arguments that change later change no results.
func TestAwardsByRulesAreNewMemory(t *testing.T) {
	rules := append(rulesUpTo(3), "edcrdcrd", "lcdrcdrc", "hrrrrrrr", "adcdcdcd")
	for _, r := range ruledCases() {
		claims, memoryOfClaims := guarded(r.of.Claims...)
		c := caseOf(r.of.Estate, claims...)
		checkNewMemory(t, r, len(claims), [][]int{memoryOfClaims}, func() [][]int { return awardsByAll(c, rules) })
	}
}

// A rule told again, or a part of it, has memory of its own.
func TestSimplerRulesAreNewMemory(t *testing.T) {
	for _, rule := range rulesUpTo(8) {
		simpler := impl.SimplerRule(rule)
		from := uintptr(unsafe.Pointer(unsafe.StringData(rule)))
		at := uintptr(unsafe.Pointer(unsafe.StringData(simpler)))
		if at+uintptr(len(simpler)) > from && at < from+uintptr(len(rule)) {
			t.Fatal("a result shares memory", rule, simpler)
		}
	}
}

// Nothing is written to claims, whatever the word is, also behind their ends.
func TestClaimsStayWithEachWord(t *testing.T) {
	d := draws(50)
	words := []string{"", "x", "de", "edddddddd"}
	for range 200 {
		words = append(words, drawnWord(&d))
	}
	for _, c := range append(invalidCases(), caseOf(9, 6, 2, 4), caseOf(3, 6, 2, 4), caseOf(7, 12), caseOf(20, 12, 1, 9, 5)) {
		claims, memory := guarded(c.Claims...)
		before := slices.Clone(memory)
		awardsByAll(caseOf(c.Estate, claims...), words)
		if !slices.Equal(memory, before) {
			t.Fatal("an argument is written to", c, before, memory)
		}
	}
}

func TestArgumentsOfChapter8Stay(t *testing.T) {
	rules := append(firstOnes(), "ed", "lc", "er", "hdc", "lcdr", "")
	checkArgumentsStay(t, 51, func(c impl.Case, awards []int) any { return awardsByAll(c, rules) })
	for _, rule := range append(rulesUpTo(4), "", "x", "edddddddd") {
		if impl.RuleOk(rule) != impl.RuleOk(rule) || impl.SimplerRule(rule) != impl.SimplerRule(rule) {
			t.Fatal("called again", rule)
		}
	}
}
