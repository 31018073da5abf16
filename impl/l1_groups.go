package impl

// GroupsMany is the number of groups, told by their numbers from 0 on: the prime, the order and the base are 7, 3 and 2; 11, 5 and 3; 23, 11 and 2; and 47, 23 and 2.
const GroupsMany = 4

// maxPower bounds the exponents that ElementPower takes, on both sides of 0.
const maxPower = 9999

// group is what tells all of a group: its elements are the powers of the base by the prime, as many as the order.
type group struct {
	prime int
	order int
	base  int
}

var groups = [GroupsMany]group{
	{7, 3, 2},
	{11, 5, 3},
	{23, 11, 2},
	{47, 23, 2},
}

func groupOk(g int) bool {
	return g >= 0 && g < GroupsMany
}

// remainder is never negative, unlike that of the operator %, because exponents below 0 count by the order, too.
func remainder(n int, by int) int {
	return (n%by + by) % by
}

// GroupPrime returns the prime of a group in 0..GroupsMany-1: 7, 11, 23 and 47; -1 for others.
func GroupPrime(g int) int {
	if !groupOk(g) {
		return -1
	}
	return groups[g].prime
}

// GroupOrder returns the order of a group in 0..GroupsMany-1: 3, 5, 11 and 23; -1 for others.
func GroupOrder(g int) int {
	if !groupOk(g) {
		return -1
	}
	return groups[g].order
}

// GroupBase returns the base of a group in 0..GroupsMany-1: 2, 3, 2 and 2; -1 for others.
func GroupBase(g int) int {
	if !groupOk(g) {
		return -1
	}
	return groups[g].base
}

// ElementOk reports whether a number is an element of a group in 0..GroupsMany-1: a number in 1..prime-1 that is a power of the base by the prime.
func ElementOk(g int, a int) bool {
	if !groupOk(g) {
		return false
	}
	power := 1
	for range groups[g].order {
		if power == a {
			return true
		}
		power = power * groups[g].base % groups[g].prime
	}
	return false
}

// ExponentOk reports whether a number is an exponent of a group in 0..GroupsMany-1: whether it is in 0..order-1.
func ExponentOk(g int, n int) bool {
	return groupOk(g) && n >= 0 && n < groups[g].order
}

// ElementTimes returns the product of two elements of a group (ElementOk): the remainder of their product by the prime; -1 for others.
func ElementTimes(g int, a int, b int) int {
	if !ElementOk(g, a) || !ElementOk(g, b) {
		return -1
	}
	return a * b % groups[g].prime
}

// ElementPower returns the power of an element of a group (ElementOk) with any exponent, from -9999 on and at most 9999, counted by the order: the product of as many as the remainder of the exponent by the order, from 0 on, and 1 for none; -1 for others.
func ElementPower(g int, a int, n int) int {
	if !ElementOk(g, a) || n < -maxPower || n > maxPower {
		return -1
	}
	power := 1
	for range remainder(n, groups[g].order) {
		power = power * a % groups[g].prime
	}
	return power
}

// ElementsOf returns all elements (ElementOk) of a group in 0..GroupsMany-1, in ascending order; nil for others.
func ElementsOf(g int) []int {
	if !groupOk(g) {
		return nil
	}
	var list []int
	for a := 1; a < groups[g].prime; a++ {
		if ElementOk(g, a) {
			list = append(list, a)
		}
	}
	return list
}

// LogOf returns the exponent in 0..order-1 with which the second one of two elements (ElementOk) of a group is a power of the first one, which is not 1 (ElementPower); -1 for 1 as the first one, and for others.
func LogOf(g int, base int, a int) int {
	if !ElementOk(g, base) || !ElementOk(g, a) || base == 1 {
		return -1
	}
	power := 1
	for n := range groups[g].order {
		if power == a {
			return n
		}
		power = power * base % groups[g].prime
	}
	return -1
}

// ExponentBack returns the exponent in 0..order-1 whose product with an exponent of a group that is not 0 (ExponentOk) has the remainder 1 by the order; -1 for 0, and for others.
func ExponentBack(g int, n int) int {
	if !ExponentOk(g, n) {
		return -1
	}
	for back := range groups[g].order {
		if n*back%groups[g].order == 1 {
			return back
		}
	}
	return -1
}

// quotient divides differences of exponents of a group, of which the second one is not 0 by the order, as it is told by two answers.
func quotient(g int, n int, by int) int {
	order := groups[g].order
	return remainder(n*ExponentBack(g, remainder(by, order)), order)
}

func elementsOk(g int, list []int) bool {
	for _, a := range list {
		if !ElementOk(g, a) {
			return false
		}
	}
	return true
}

func exponentsOk(g int, list []int) bool {
	for _, n := range list {
		if !ExponentOk(g, n) {
			return false
		}
	}
	return true
}
