package tests

import (
	"slices"
	"testing"

	"loop.example/shortestates/impl"
)

// twoTo returns 2 to the power of a number, at most MaxClaimants: the number that tells the set of this person alone, and how many sets there are of so many people.
func twoTo(number int) int {
	return []int{1, 2, 4, 8, 16}[number]
}

// membersOf returns of so many people those of a set, and all others. The number of the set is divided by 2 for each person, so that no bits are asked.
func membersOf(set, people int) (members, others []int) {
	for person := range people {
		if set%2 == 1 {
			members = append(members, person)
		} else {
			others = append(others, person)
		}
		set /= 2
	}
	return members, others
}

// togetherOf returns the numbers of some people together.
func togetherOf(row, people []int) int {
	sum := 0
	for _, person := range people {
		sum += row[person]
	}
	return sum
}

// worthsByDefinition tells anew, from the sentences of the document, what each set of people of a valid case is worth.
func worthsByDefinition(c impl.Case) []int {
	worths := []int{}
	for set := range twoTo(len(c.Claims)) {
		_, others := membersOf(set, len(c.Claims))
		worths = append(worths, max(0, c.Estate-togetherOf(c.Claims, others)))
	}
	return worths
}

// worthCase has what each set of people of a case is worth, reckoned by hand.
type worthCase struct {
	of     impl.Case
	worths []int
}

func worthCases() []worthCase {
	return []worthCase{
		{caseOf(9, 2, 4, 6), []int{0, 0, 1, 3, 3, 5, 7, 9}},
		{caseOf(9, 6, 2, 4), []int{0, 3, 0, 5, 1, 7, 3, 9}},
		{caseOf(5, 2, 4, 6), []int{0, 0, 0, 0, 0, 1, 3, 5}},
		{caseOf(6, 2, 4, 6), []int{0, 0, 0, 0, 0, 2, 4, 6}},
		{caseOf(2, 2, 4, 6), []int{0, 0, 0, 0, 0, 0, 0, 2}},
		{caseOf(0, 2, 4, 6), []int{0, 0, 0, 0, 0, 0, 0, 0}},
		{caseOf(12, 2, 4, 6), []int{0, 2, 4, 6, 6, 8, 10, 12}},
		{caseOf(10, 1, 2, 3, 8), []int{0, 0, 0, 0, 0, 0, 1, 2, 4, 5, 6, 7, 7, 8, 9, 10}},
		{caseOf(10, 8, 3, 2, 1), []int{0, 4, 0, 7, 0, 6, 1, 9, 0, 5, 0, 8, 0, 7, 2, 10}},
		{caseOf(3, 2, 4), []int{0, 0, 1, 3}},
		{caseOf(11, 1, 12), []int{0, 0, 10, 11}},
		{caseOf(5, 9, 0), []int{0, 5, 0, 5}},
		{caseOf(5, 9, 0, 9), []int{0, 0, 0, 0, 0, 5, 0, 5}},
		{caseOf(12, 9, 0, 9), []int{0, 3, 0, 3, 3, 12, 3, 12}},
		{caseOf(4, 3, 3), []int{0, 1, 1, 4}},
		// One person alone.
		{caseOf(0, 0), []int{0, 0}},
		{caseOf(0, 12), []int{0, 0}},
		{caseOf(7, 12), []int{0, 7}},
		{caseOf(12, 12), []int{0, 12}},
		{caseOf(0, 0, 0), []int{0, 0, 0, 0}},
		{caseOf(0, 0, 0, 0, 0), make([]int, 16)},
		{caseOf(1, 12, 12, 12, 12), []int{0, 0, 0, 0, 0, 0, 0, 0, 0, 0, 0, 0, 0, 0, 0, 1}},
		{caseOf(30, 12, 12, 12, 12), []int{0, 0, 0, 6, 0, 6, 6, 18, 0, 6, 6, 18, 6, 18, 18, 30}},
		{caseOf(47, 12, 12, 12, 12), []int{0, 11, 11, 23, 11, 23, 23, 35, 11, 23, 23, 35, 23, 35, 35, 47}},
		{caseOf(48, 12, 12, 12, 12), []int{0, 12, 12, 24, 12, 24, 24, 36, 12, 24, 24, 36, 24, 36, 36, 48}},
	}
}

func TestWorthsByHand(t *testing.T) {
	for _, r := range worthCases() {
		if x := impl.WorthRow(r.of); !slices.Equal(x, r.worths) {
			t.Fatal(r, x)
		}
		for set, worth := range r.worths {
			if x := impl.WorthOf(r.of, set); x != worth {
				t.Fatal(r, set, x)
			}
		}
		if x := impl.WorthOf(r.of, len(r.worths)); x != -1 {
			t.Fatal("no set", r, x)
		}
	}
}

func TestWorthsByDefinition(t *testing.T) {
	for _, c := range validCases() {
		worths := impl.WorthRow(c)
		if !slices.Equal(worths, worthsByDefinition(c)) {
			t.Fatal(c, worths)
		}
		for set, worth := range worths {
			if x := impl.WorthOf(c, set); x != worth {
				t.Fatal(c, set, x, worth)
			}
		}
	}
}

// bothOf returns the set of those who are in one of two sets, and the set of those who are in both.
func bothOf(set, other, people int) (union, common int) {
	number := 1
	for range people {
		if set%2 == 1 || other%2 == 1 {
			union += number
		}
		if set%2 == 1 && other%2 == 1 {
			common += number
		}
		set, other, number = set/2, other/2, 2*number
	}
	return union, common
}

// Promise 32: of any two sets.
func TestToMorePeopleAFurtherOneBringsNoLess(t *testing.T) {
	for _, c := range validCases() {
		worths := make([]int, twoTo(len(c.Claims)))
		for set := range worths {
			worths[set] = impl.WorthOf(c, set)
		}
		if worths[0] != 0 || worths[len(worths)-1] != c.Estate {
			t.Fatal("nobody, and all people", c, worths)
		}
		for set := range worths {
			for other := range set {
				union, common := bothOf(set, other, len(c.Claims))
				if worths[set]+worths[other] > worths[union]+worths[common] {
					t.Fatal(c, set, other, worths)
				}
			}
		}
	}
}

// Promise 36.
func TestTheGameKnowsCutClaimsAlone(t *testing.T) {
	for _, c := range validCases() {
		worths, rights := impl.WorthRow(c), impl.RightsOf(c)
		cut, _ := impl.CutCase(c)
		if x := impl.WorthRow(cut); len(worths) == 0 || !slices.Equal(x, worths) {
			t.Fatal(c, cut, worths, x)
		}
		for person, right := range rights {
			if set := twoTo(person); worths[set] != right {
				t.Fatal("one person", c, person, worths, rights)
			}
		}
		for set, worth := range worths {
			if others := len(worths) - 1 - set; worth+worths[others] > c.Estate {
				t.Fatal("a set and all others", c, set, worths)
			}
		}
	}
}

// Promise 37.
func TestOnTheOtherSideASetIsWorthWhatItClaimsTooMuch(t *testing.T) {
	for _, c := range validCases() {
		other, _ := impl.OtherCase(c)
		worths := impl.WorthRow(other)
		if len(worths) != twoTo(len(c.Claims)) {
			t.Fatal(c, worths)
		}
		for set, worth := range worths {
			members, _ := membersOf(set, len(c.Claims))
			claims := togetherOf(c.Claims, members)
			if worth != impl.WorthOf(other, set) || worth != max(0, claims-c.Estate) {
				t.Fatal(c, set, worth, claims)
			}
			if ofOthers := impl.WorthOf(c, len(worths)-1-set); worth != claims-c.Estate+ofOthers {
				t.Fatal("all others", c, set, worth, claims, ofOthers)
			}
		}
	}
}

// With other places for the people sets are worth the same at these places.
func TestNamesChangeNoWorths(t *testing.T) {
	for _, c := range validCases() {
		worths := impl.WorthRow(c)
		for _, order := range ordersOf(len(c.Claims)) {
			named, _ := impl.NamedCase(c, order)
			for set, worth := range worths {
				members, _ := membersOf(set, len(order))
				namedSet := 0
				for _, person := range members {
					namedSet += twoTo(order[person])
				}
				if x := impl.WorthOf(named, namedSet); x != worth {
					t.Fatal(c, order, set, namedSet, worth, x)
				}
			}
		}
	}
}
