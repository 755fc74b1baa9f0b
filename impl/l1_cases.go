package impl

import "slices"

// MaxClaimants is the maximum number of people with claims, MaxClaim that of units of a claim, and Parts the number of parts of a unit.
const (
	MaxClaimants = 4
	MaxClaim     = 12
	Parts        = 48
)

// Case has an estate (Estate), and a claim on it for each person (Claims), in units.
type Case struct {
	Estate int
	Claims []int
}

// CaseOk reports whether a case has 1..MaxClaimants claims, each in 0..MaxClaim, and an estate from 0 up to all claims together.
func CaseOk(c Case) bool {
	// Each claim is bounded before the claims are summed, so that no sum wraps around.
	if !eachPersonUpTo(MaxClaim, c.Claims) {
		return false
	}
	return c.Estate >= 0 && c.Estate <= sumOf(c.Claims)
}

// OwedOf returns all claims of a case together (CaseOk); -1 for others.
func OwedOf(c Case) int {
	if !CaseOk(c) {
		return -1
	}
	return sumOf(c.Claims)
}

// OtherCase returns the case with the same claims, whose estate is all claims together less the estate of a case (CaseOk, OwedOf), and true; the zero value and false for others.
func OtherCase(c Case) (Case, bool) {
	if !CaseOk(c) {
		return Case{}, false
	}
	return Case{Estate: sumOf(c.Claims) - c.Estate, Claims: slices.Clone(c.Claims)}, true
}

// CutCase returns a case (CaseOk) with each claim cut to the estate, if it is more, and true; the zero value and false for others.
func CutCase(c Case) (Case, bool) {
	if !CaseOk(c) {
		return Case{}, false
	}
	claims := make([]int, len(c.Claims))
	for i, claim := range c.Claims {
		claims[i] = min(claim, c.Estate)
	}
	return Case{Estate: c.Estate, Claims: claims}, true
}

// RightsOf returns for each person of a case (CaseOk) the estate less the claims of all others together, in units, 0 if that is less; nil for others.
func RightsOf(c Case) []int {
	if !CaseOk(c) {
		return nil
	}
	owed := sumOf(c.Claims)
	rights := make([]int, len(c.Claims))
	for i, claim := range c.Claims {
		rights[i] = max(0, c.Estate-(owed-claim))
	}
	return rights
}

// RestCase returns the case that is left of a case (CaseOk) if each person is given the right (RightsOf) first: the estate less all rights, and each claim less the right; and true; the zero value and false for others.
func RestCase(c Case) (Case, bool) {
	if !CaseOk(c) {
		return Case{}, false
	}
	rights := RightsOf(c)
	claims := make([]int, len(c.Claims))
	for i, claim := range c.Claims {
		claims[i] = claim - rights[i]
	}
	return Case{Estate: c.Estate - sumOf(rights), Claims: claims}, true
}

// NamedCase returns a case (CaseOk) in which each person has the place that an order tells, which has each number from 0 on, and less than the people, once; and true; the zero value and false for others.
func NamedCase(c Case, order []int) (Case, bool) {
	if !CaseOk(c) || !isOrder(order, len(c.Claims)) {
		return Case{}, false
	}
	claims := make([]int, len(c.Claims))
	for i, place := range order {
		claims[place] = c.Claims[i]
	}
	return Case{Estate: c.Estate, Claims: claims}, true
}

// AwardsOk reports whether there are just as many awards in parts as people in a case (CaseOk), each from 0 up to Parts times the claim, together Parts times the estate.
func AwardsOk(c Case, awards []int) bool {
	if !CaseOk(c) || len(awards) != len(c.Claims) {
		return false
	}
	// As in CaseOk, each award is bounded before they are summed.
	for i, award := range awards {
		if award < 0 || award > Parts*c.Claims[i] {
			return false
		}
	}
	return sumOf(awards) == Parts*c.Estate
}

// LossesOf returns for each person of a case Parts times the claim less the award (AwardsOk); nil for others.
func LossesOf(c Case, awards []int) []int {
	if !AwardsOk(c, awards) {
		return nil
	}
	losses := make([]int, len(awards))
	for i, award := range awards {
		losses[i] = Parts*c.Claims[i] - award
	}
	return losses
}

func sumOf(row []int) int {
	sum := 0
	for _, number := range row {
		sum += number
	}
	return sum
}

// eachPersonUpTo reports whether a row has a number for each of 1..MaxClaimants people, from 0 up to a greatest one.
func eachPersonUpTo(greatest int, row []int) bool {
	return len(row) >= 1 && len(row) <= MaxClaimants && allUpTo(greatest, row)
}

// allUpTo reports whether each number of a row is from 0 up to a greatest one.
func allUpTo(greatest int, row []int) bool {
	for _, number := range row {
		if number < 0 || number > greatest {
			return false
		}
	}
	return true
}

// isOrder reports whether an order has each number from 0 on, and less than the people, once.
func isOrder(order []int, people int) bool {
	if len(order) != people {
		return false
	}
	seen := make([]bool, people)
	for _, place := range order {
		if place < 0 || place >= people || seen[place] {
			return false
		}
		seen[place] = true
	}
	return true
}
