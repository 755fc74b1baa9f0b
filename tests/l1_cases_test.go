package tests

import (
	"slices"
	"testing"

	"loop.example/shortestates/impl"
)

func TestConstantsOfCases(t *testing.T) {
	if impl.MaxClaimants != 4 || impl.MaxClaim != 12 || impl.Parts != 48 {
		t.Fatal(impl.MaxClaimants, impl.MaxClaim, impl.Parts)
	}
}

// caseRow has what the functions of chapter 1 return for a case, reckoned by hand.
type caseRow struct {
	of          impl.Case
	owed, lacks int
	cut, rights []int
	left        impl.Case
}

func caseRows() []caseRow {
	return []caseRow{
		{caseOf(5, 2, 4, 6), 12, 7, []int{2, 4, 5}, []int{0, 0, 0}, caseOf(5, 2, 4, 6)},
		{caseOf(9, 2, 4, 6), 12, 3, []int{2, 4, 6}, []int{0, 1, 3}, caseOf(5, 2, 3, 3)},
		{caseOf(0, 0), 0, 0, []int{0}, []int{0}, caseOf(0, 0)},
		{caseOf(0, 12), 12, 12, []int{0}, []int{0}, caseOf(0, 12)},
		{caseOf(12, 12), 12, 0, []int{12}, []int{12}, caseOf(0, 0)},
		{caseOf(7, 12), 12, 5, []int{7}, []int{7}, caseOf(0, 5)},
		{caseOf(0, 0, 0, 0, 0), 0, 0, []int{0, 0, 0, 0}, []int{0, 0, 0, 0}, caseOf(0, 0, 0, 0, 0)},
		{caseOf(0, 3, 0, 9), 12, 12, []int{0, 0, 0}, []int{0, 0, 0}, caseOf(0, 3, 0, 9)},
		{caseOf(12, 3, 0, 9), 12, 0, []int{3, 0, 9}, []int{3, 0, 9}, caseOf(0, 0, 0, 0)},
		{caseOf(48, 12, 12, 12, 12), 48, 0, []int{12, 12, 12, 12}, []int{12, 12, 12, 12}, caseOf(0, 0, 0, 0, 0)},
		{caseOf(40, 12, 12, 12, 12), 48, 8, []int{12, 12, 12, 12}, []int{4, 4, 4, 4}, caseOf(24, 8, 8, 8, 8)},
		{caseOf(6, 12, 1, 0, 8), 21, 15, []int{6, 1, 0, 6}, []int{0, 0, 0, 0}, caseOf(6, 12, 1, 0, 8)},
		{caseOf(11, 1, 12), 13, 2, []int{1, 11}, []int{0, 10}, caseOf(1, 1, 2)},
	}
}

func TestCasesByHand(t *testing.T) {
	for _, r := range caseRows() {
		if !impl.CaseOk(r.of) || impl.OwedOf(r.of) != r.owed {
			t.Fatal(r.of, impl.CaseOk(r.of), impl.OwedOf(r.of))
		}
		if x, ok := impl.OtherCase(r.of); !ok || !sameCase(x, caseOf(r.lacks, r.of.Claims...)) {
			t.Fatal("other", r.of, x, ok)
		}
		if x, ok := impl.CutCase(r.of); !ok || !sameCase(x, caseOf(r.of.Estate, r.cut...)) {
			t.Fatal("cut", r.of, x, ok)
		}
		if x := impl.RightsOf(r.of); !slices.Equal(x, r.rights) {
			t.Fatal("rights", r.of, x)
		}
		if x, ok := impl.RestCase(r.of); !ok || !sameCase(x, r.left) {
			t.Fatal("rest", r.of, x, ok)
		}
	}
}

// Promise 1.
func TestNothingClaimedIsACase(t *testing.T) {
	if !impl.CaseOk(caseOf(0, 0)) {
		t.Fatal("nothing")
	}
	for _, c := range validCases() {
		if !impl.CaseOk(c) || !impl.CaseOk(caseOf(0, c.Claims...)) || !impl.CaseOk(caseOf(total(c.Claims), c.Claims...)) {
			t.Fatal(c)
		}
		if impl.CaseOk(caseOf(-1, c.Claims...)) || impl.CaseOk(caseOf(total(c.Claims)+1, c.Claims...)) {
			t.Fatal(c)
		}
	}
	for people := range 7 {
		if got := impl.CaseOk(caseOf(0, make([]int, people)...)); got != (people >= 1 && people <= 4) {
			t.Fatal(people, got)
		}
	}
	for claim := -2; claim <= 14; claim++ {
		if got := impl.CaseOk(caseOf(0, 3, claim)); got != (claim >= 0 && claim <= 12) {
			t.Fatal(claim, got)
		}
	}
}

// Promise 2.
func TestEstateAndWhatLacksAreAllClaims(t *testing.T) {
	for _, c := range validCases() {
		other, ok := impl.OtherCase(c)
		owed := impl.OwedOf(c)
		if !ok || owed != total(c.Claims) || c.Estate+other.Estate != owed {
			t.Fatal(c, other, ok, owed)
		}
	}
}

// Promise 3.
func TestOtherOfOtherIsTheCase(t *testing.T) {
	for _, c := range validCases() {
		other, ok := impl.OtherCase(c)
		if !ok || !impl.CaseOk(other) || !slices.Equal(other.Claims, c.Claims) {
			t.Fatal(c, other, ok)
		}
		if back, ok := impl.OtherCase(other); !ok || !sameCase(back, c) {
			t.Fatal(c, back, ok)
		}
	}
}

// Promise 4.
func TestCutClaimsAreEnough(t *testing.T) {
	for _, c := range validCases() {
		cut, ok := impl.CutCase(c)
		if !ok || !impl.CaseOk(cut) || cut.Estate != c.Estate || len(cut.Claims) != len(c.Claims) {
			t.Fatal(c, cut, ok)
		}
		for i, claim := range cut.Claims {
			fits := claim == c.Claims[i] && claim <= c.Estate
			if !fits && (claim != c.Estate || claim > c.Claims[i]) {
				t.Fatal(c, cut)
			}
		}
		if again, ok := impl.CutCase(cut); !ok || !sameCase(again, cut) {
			t.Fatal(c, cut, again, ok)
		}
	}
}

// Promise 5, but for awards.
func TestRightsAreWhatIsCutOfTheOtherCase(t *testing.T) {
	for _, c := range validCases() {
		rights := impl.RightsOf(c)
		other, _ := impl.OtherCase(c)
		cut, ok := impl.CutCase(other)
		if !ok || len(rights) != len(c.Claims) || total(rights) > c.Estate {
			t.Fatal(c, rights, cut, ok)
		}
		for i, right := range rights {
			if right != c.Claims[i]-cut.Claims[i] {
				t.Fatal(c, rights, cut)
			}
		}
	}
}

// Promise 6.
func TestAfterTheRightsNobodyHasARight(t *testing.T) {
	for _, c := range validCases() {
		left, ok := impl.RestCase(c)
		if !ok || !impl.CaseOk(left) || len(left.Claims) != len(c.Claims) {
			t.Fatal(c, left, ok)
		}
		rights := impl.RightsOf(left)
		if len(rights) != len(c.Claims) || total(rights) != 0 || slices.Min(rights) != 0 {
			t.Fatal(c, left, rights)
		}
		other, _ := impl.OtherCase(c)
		cut, _ := impl.CutCase(other)
		if x, ok := impl.OtherCase(left); !ok || !sameCase(x, cut) {
			t.Fatal(c, left, x, cut)
		}
	}
}

// Promise 7.
func TestNamesChangeNoSums(t *testing.T) {
	for _, c := range validCases() {
		rights := impl.RightsOf(c)
		for _, order := range ordersOf(len(c.Claims)) {
			named, ok := impl.NamedCase(c, order)
			if !ok || !impl.CaseOk(named) || named.Estate != c.Estate || impl.OwedOf(named) != impl.OwedOf(c) {
				t.Fatal(c, order, named, ok)
			}
			namedRights := impl.RightsOf(named)
			for i, place := range order {
				if named.Claims[place] != c.Claims[i] || namedRights[place] != rights[i] {
					t.Fatal(c, order, named, rights, namedRights)
				}
			}
		}
	}
}

// The order tells the place of each person; only orders that are not turned back by themselves can show it.
func TestNamedCaseByHand(t *testing.T) {
	c := caseOf(5, 2, 4, 6)
	if x, ok := impl.NamedCase(c, []int{2, 0, 1}); !ok || !sameCase(x, caseOf(5, 4, 6, 2)) {
		t.Fatal(x, ok)
	}
	if x, ok := impl.NamedCase(c, []int{0, 1, 2}); !ok || !sameCase(x, c) {
		t.Fatal(x, ok)
	}
	if x, ok := impl.NamedCase(caseOf(0, 0), []int{0}); !ok || !sameCase(x, caseOf(0, 0)) {
		t.Fatal(x, ok)
	}
	if x, ok := impl.NamedCase(caseOf(20, 1, 2, 11, 12), []int{1, 2, 3, 0}); !ok || !sameCase(x, caseOf(20, 12, 1, 2, 11)) {
		t.Fatal(x, ok)
	}
}

// Promise 10.
func TestWithMoreRightsAreNoLess(t *testing.T) {
	for _, c := range validCases() {
		rights := impl.RightsOf(c)
		if c.Estate == total(c.Claims) {
			if !slices.Equal(rights, c.Claims) {
				t.Fatal(c, rights)
			}
			continue
		}
		more := impl.RightsOf(caseOf(c.Estate+1, c.Claims...))
		if len(rights) != len(c.Claims) || len(more) != len(c.Claims) {
			t.Fatal(c, rights, more)
		}
		for i, right := range rights {
			if more[i] != right && more[i] != right+1 {
				t.Fatal(c, rights, more)
			}
		}
	}
}
