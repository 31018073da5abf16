package tests

import (
	"math"
	"slices"
	"testing"

	"loop.example/sigmaproofs/impl"
)

// groupKnown is a group as the document tells it, with its elements worked out by hand, so that no test rests on the program alone.
type groupKnown struct {
	prime    int
	order    int
	base     int
	elements []int
}

var groupsKnown = []groupKnown{
	{7, 3, 2, []int{1, 2, 4}},
	{11, 5, 3, []int{1, 3, 4, 5, 9}},
	{23, 11, 2, []int{1, 2, 3, 4, 6, 8, 9, 12, 13, 16, 18}},
	{47, 23, 2, []int{1, 2, 3, 4, 6, 7, 8, 9, 12, 14, 16, 17, 18, 21, 24, 25, 27, 28, 32, 34, 36, 37, 42}},
}

var numbersFarOff = []int{
	math.MinInt, math.MinInt + 1, math.MinInt32, -1 << 20, -10000,
	10000, 1 << 20, math.MaxInt32, math.MaxInt - 1, math.MaxInt,
}

// groupsWrong are numbers that are no groups.
func groupsWrong() []int {
	return append([]int{-1, -2, impl.GroupsMany, impl.GroupsMany + 1, 7}, numbersFarOff...)
}

// elementsWrong are numbers that are no elements of a group: those from 0 to twice the prime that are missing in its list, and others.
func elementsWrong(k groupKnown) []int {
	list := append([]int{-1, -2, 1 - k.prime, 1 + 3*k.prime}, numbersFarOff...)
	for a := 0; a <= 2*k.prime; a++ {
		if !slices.Contains(k.elements, a) {
			list = append(list, a)
		}
	}
	return list
}

// exponentsWrong are numbers that are no exponents of a group.
func exponentsWrong(k groupKnown) []int {
	return append([]int{-1, -2, -k.order, k.order, k.order + 1, k.prime, 2 * k.order}, numbersFarOff...)
}

// exponentsTried are exponents for ElementPower: small ones on both sides of 0, and those next to its bounds.
func exponentsTried() []int {
	list := []int{-9999, -9998, -9977, 9977, 9998, 9999}
	for n := -60; n <= 60; n++ {
		list = append(list, n)
	}
	return list
}

// powerKnown multiplies or, below 0, divides one by one, and knows nothing of the order.
func powerKnown(k groupKnown, a int, n int) int {
	by := a
	if n < 0 {
		n = -n
		for by = 1; a*by%k.prime != 1; by++ {
		}
	}
	power := 1
	for range n {
		power = power * by % k.prime
	}
	return power
}

func wantNumber(t *testing.T, what string, got int, want int, args ...int) {
	t.Helper()
	if got != want {
		t.Errorf("%s%v = %d, want %d", what, args, got, want)
	}
}

func wantBool(t *testing.T, what string, got bool, want bool, args ...int) {
	t.Helper()
	if got != want {
		t.Errorf("%s%v = %t, want %t", what, args, got, want)
	}
}

func TestGroupsMany(t *testing.T) {
	wantNumber(t, "GroupsMany", impl.GroupsMany, len(groupsKnown))
}

func TestGroupNumbers(t *testing.T) {
	for g, k := range groupsKnown {
		wantNumber(t, "GroupPrime", impl.GroupPrime(g), k.prime, g)
		wantNumber(t, "GroupOrder", impl.GroupOrder(g), k.order, g)
		wantNumber(t, "GroupBase", impl.GroupBase(g), k.base, g)
	}
	for _, g := range groupsWrong() {
		wantNumber(t, "GroupPrime", impl.GroupPrime(g), -1, g)
		wantNumber(t, "GroupOrder", impl.GroupOrder(g), -1, g)
		wantNumber(t, "GroupBase", impl.GroupBase(g), -1, g)
	}
}

func TestP51PrimesHaveNoDivisors(t *testing.T) {
	for g := range impl.GroupsMany {
		prime, order := impl.GroupPrime(g), impl.GroupOrder(g)
		if prime < 2 || order < 1 {
			t.Fatalf("group %d has the prime %d and the order %d", g, prime, order)
		}
		for by := 2; by < prime; by++ {
			if prime%by == 0 {
				t.Errorf("%d divides the prime %d of group %d", by, prime, g)
			}
		}
		if (prime-1)%order != 0 {
			t.Errorf("the order %d of group %d does not divide %d", order, g, prime-1)
		}
	}
}

func TestP52OrdersArePrimes(t *testing.T) {
	for g := range impl.GroupsMany {
		order := impl.GroupOrder(g)
		if order < 2 {
			t.Errorf("group %d has the order %d", g, order)
		}
		for by := 2; by < order; by++ {
			if order%by == 0 {
				t.Errorf("%d divides the order %d of group %d", by, order, g)
			}
		}
		wantNumber(t, "number of elements of group ", len(impl.ElementsOf(g)), order, g)
	}
}

func TestP53BaseMakesTheGroup(t *testing.T) {
	for g := range impl.GroupsMany {
		base := impl.GroupBase(g)
		wantBool(t, "ElementOk", impl.ElementOk(g, base), true, g, base)
		if base == 1 {
			t.Errorf("the base of group %d is 1", g)
		}
	}
}

func TestP54ElementsHaveTheOrder(t *testing.T) {
	for g := range impl.GroupsMany {
		list := impl.ElementsOf(g)
		for a := 1; a < impl.GroupPrime(g); a++ {
			wantBool(t, "ElementOk", impl.ElementOk(g, a), slices.Contains(list, a), g, a)
		}
	}
}

func TestElementOk(t *testing.T) {
	for g, k := range groupsKnown {
		for _, a := range k.elements {
			wantBool(t, "ElementOk", impl.ElementOk(g, a), true, g, a)
		}
		for _, a := range elementsWrong(k) {
			wantBool(t, "ElementOk", impl.ElementOk(g, a), false, g, a)
		}
	}
	for _, g := range groupsWrong() {
		for _, a := range append([]int{0, 1, 2}, numbersFarOff...) {
			wantBool(t, "ElementOk", impl.ElementOk(g, a), false, g, a)
		}
	}
}

func TestP55ZeroIsAnExponent(t *testing.T) {
	for g := range impl.GroupsMany {
		order := impl.GroupOrder(g)
		wantBool(t, "ExponentOk", impl.ExponentOk(g, 0), true, g, 0)
		wantBool(t, "ExponentOk", impl.ExponentOk(g, order), false, g, order)
	}
}

func TestExponentOk(t *testing.T) {
	for g, k := range groupsKnown {
		for n := range k.order {
			wantBool(t, "ExponentOk", impl.ExponentOk(g, n), true, g, n)
		}
		for _, n := range exponentsWrong(k) {
			wantBool(t, "ExponentOk", impl.ExponentOk(g, n), false, g, n)
		}
	}
	for _, g := range groupsWrong() {
		for _, n := range append([]int{-1, 0, 1, 2}, numbersFarOff...) {
			wantBool(t, "ExponentOk", impl.ExponentOk(g, n), false, g, n)
		}
	}
}

func TestP56ProductsAreElements(t *testing.T) {
	for g := range impl.GroupsMany {
		list := impl.ElementsOf(g)
		for _, a := range list {
			for _, b := range list {
				both := impl.ElementTimes(g, a, b)
				wantBool(t, "ElementOk", impl.ElementOk(g, both), true, g, both)
				wantNumber(t, "ElementTimes", impl.ElementTimes(g, b, a), both, g, b, a)
				for _, c := range list {
					last := impl.ElementTimes(g, a, impl.ElementTimes(g, b, c))
					wantNumber(t, "product of three", impl.ElementTimes(g, both, c), last, g, a, b, c)
				}
			}
		}
	}
}

func TestElementTimes(t *testing.T) {
	for g, k := range groupsKnown {
		for _, a := range k.elements {
			wantNumber(t, "ElementTimes", impl.ElementTimes(g, a, 1), a, g, a, 1)
			for _, b := range k.elements {
				wantNumber(t, "ElementTimes", impl.ElementTimes(g, a, b), a*b%k.prime, g, a, b)
			}
			for _, b := range elementsWrong(k) {
				wantNumber(t, "ElementTimes", impl.ElementTimes(g, a, b), -1, g, a, b)
				wantNumber(t, "ElementTimes", impl.ElementTimes(g, b, a), -1, g, b, a)
			}
		}
	}
	for _, g := range groupsWrong() {
		wantNumber(t, "ElementTimes", impl.ElementTimes(g, 1, 1), -1, g, 1, 1)
		wantNumber(t, "ElementTimes", impl.ElementTimes(g, math.MaxInt, math.MinInt), -1, g)
	}
}

func TestP1ExponentsAddUp(t *testing.T) {
	for g := range impl.GroupsMany {
		order := impl.GroupOrder(g)
		for _, a := range impl.ElementsOf(g) {
			for m := -order - 1; m <= order+1; m++ {
				power := impl.ElementPower(g, a, m)
				wantNumber(t, "power with the order more", impl.ElementPower(g, a, m+order), power, g, a, m)
				for n := -order - 1; n <= order+1; n++ {
					other := impl.ElementPower(g, a, n)
					wantNumber(t, "power of a sum", impl.ElementPower(g, a, m+n), impl.ElementTimes(g, power, other), g, a, m, n)
					wantNumber(t, "power of a product", impl.ElementPower(g, a, m*n), impl.ElementPower(g, power, n), g, a, m, n)
				}
			}
		}
	}
}

func TestP1AtTheBounds(t *testing.T) {
	for g := range impl.GroupsMany {
		order := impl.GroupOrder(g)
		for _, a := range impl.ElementsOf(g) {
			least, most := impl.ElementPower(g, a, -9999), impl.ElementPower(g, a, 9999)
			wantNumber(t, "product of both bounds", impl.ElementTimes(g, least, most), 1, g, a)
			wantNumber(t, "least with the order more", impl.ElementPower(g, a, -9999+order), least, g, a)
			wantNumber(t, "most with the order less", impl.ElementPower(g, a, 9999-order), most, g, a)
			inner := impl.ElementPower(g, a, 99)
			wantNumber(t, "power of a power", impl.ElementPower(g, inner, 101), most, g, a)
			wantNumber(t, "power of a power", impl.ElementPower(g, inner, -101), least, g, a)
		}
	}
}

func TestElementPower(t *testing.T) {
	for g, k := range groupsKnown {
		for _, a := range k.elements {
			wantNumber(t, "ElementPower", impl.ElementPower(g, a, 0), 1, g, a, 0)
			wantNumber(t, "ElementPower", impl.ElementPower(g, a, k.order), 1, g, a, k.order)
			for _, n := range exponentsTried() {
				wantNumber(t, "ElementPower", impl.ElementPower(g, a, n), powerKnown(k, a, n), g, a, n)
			}
		}
	}
}

func TestElementPowerOfOthers(t *testing.T) {
	for g, k := range groupsKnown {
		for _, a := range k.elements {
			for _, n := range append([]int{-10001, 10001}, numbersFarOff...) {
				wantNumber(t, "ElementPower", impl.ElementPower(g, a, n), -1, g, a, n)
			}
		}
		for _, a := range elementsWrong(k) {
			for _, n := range append([]int{-1, 0, 1}, numbersFarOff...) {
				wantNumber(t, "ElementPower", impl.ElementPower(g, a, n), -1, g, a, n)
			}
		}
	}
	for _, g := range groupsWrong() {
		for _, n := range append([]int{-1, 0, 1}, numbersFarOff...) {
			wantNumber(t, "ElementPower", impl.ElementPower(g, 1, n), -1, g, 1, n)
		}
	}
}

// powersOf are the powers of an element with all exponents, in ascending order.
func powersOf(g int, a int) []int {
	var list []int
	for n := range impl.GroupOrder(g) {
		list = append(list, impl.ElementPower(g, a, n))
	}
	slices.Sort(list)
	return list
}

func TestP2AllPowersAreAllElements(t *testing.T) {
	for g := range impl.GroupsMany {
		list := impl.ElementsOf(g)
		if got := powersOf(g, impl.GroupBase(g)); !slices.Equal(got, list) {
			t.Errorf("the powers of the base of group %d are %v, and the elements %v", g, got, list)
		}
		for _, a := range list {
			if got := powersOf(g, a); a != 1 && !slices.Equal(got, list) {
				t.Errorf("the powers of %d in group %d are %v, and the elements %v", a, g, got, list)
			}
		}
	}
}

func TestElementsOf(t *testing.T) {
	for g, k := range groupsKnown {
		list := impl.ElementsOf(g)
		if !slices.Equal(list, k.elements) {
			t.Errorf("ElementsOf(%d) = %v, want %v", g, list, k.elements)
		}
		for i := 1; i < len(list); i++ {
			if list[i-1] >= list[i] {
				t.Errorf("ElementsOf(%d) = %v does not ascend", g, list)
			}
		}
	}
	for _, g := range groupsWrong() {
		if list := impl.ElementsOf(g); len(list) != 0 {
			t.Errorf("ElementsOf(%d) = %v, want nil", g, list)
		}
	}
}

func TestElementsOfIsNewMemory(t *testing.T) {
	for g, k := range groupsKnown {
		first, second := impl.ElementsOf(g), impl.ElementsOf(g)
		whole := first[:cap(first)]
		for i := range whole {
			whole[i] = -7
		}
		if !slices.Equal(second, k.elements) || !slices.Equal(impl.ElementsOf(g), k.elements) {
			t.Errorf("two results of ElementsOf(%d) share memory", g)
		}
	}
}

func TestP3ExponentsOfProductsAddUp(t *testing.T) {
	for g := range impl.GroupsMany {
		order, list := impl.GroupOrder(g), impl.ElementsOf(g)
		for _, base := range list {
			if base == 1 {
				continue
			}
			for _, a := range list {
				log := impl.LogOf(g, base, a)
				wantBool(t, "ExponentOk", impl.ExponentOk(g, log), true, g, log)
				wantNumber(t, "power with LogOf", impl.ElementPower(g, base, log), a, g, base, a)
				for _, b := range list {
					sum := (log + impl.LogOf(g, base, b)) % order
					wantNumber(t, "LogOf a product", impl.LogOf(g, base, impl.ElementTimes(g, a, b)), sum, g, base, a, b)
				}
			}
		}
	}
}

func TestLogOf(t *testing.T) {
	for g, k := range groupsKnown {
		for _, base := range k.elements {
			if base == 1 {
				continue
			}
			for n := range k.order {
				a := powerKnown(k, base, n)
				wantNumber(t, "LogOf", impl.LogOf(g, base, a), n, g, base, a)
			}
		}
	}
}

func TestLogOfOthers(t *testing.T) {
	for g, k := range groupsKnown {
		for _, a := range k.elements {
			wantNumber(t, "LogOf", impl.LogOf(g, 1, a), -1, g, 1, a)
			for _, b := range elementsWrong(k) {
				wantNumber(t, "LogOf", impl.LogOf(g, a, b), -1, g, a, b)
				wantNumber(t, "LogOf", impl.LogOf(g, b, a), -1, g, b, a)
				wantNumber(t, "LogOf", impl.LogOf(g, b, b), -1, g, b, b)
			}
		}
	}
	for _, g := range groupsWrong() {
		wantNumber(t, "LogOf", impl.LogOf(g, 2, 1), -1, g, 2, 1)
		wantNumber(t, "LogOf", impl.LogOf(g, 2, 2), -1, g, 2, 2)
		wantNumber(t, "LogOf", impl.LogOf(g, math.MinInt, math.MaxInt), -1, g)
	}
}

func TestP57RootsUndoPowers(t *testing.T) {
	for g := range impl.GroupsMany {
		for n := 1; n < impl.GroupOrder(g); n++ {
			back := impl.ExponentBack(g, n)
			for _, a := range impl.ElementsOf(g) {
				power := impl.ElementPower(g, a, n)
				wantNumber(t, "power of a power with ExponentBack", impl.ElementPower(g, power, back), a, g, a, n)
			}
		}
	}
}

func TestExponentBack(t *testing.T) {
	for g, k := range groupsKnown {
		wantNumber(t, "ExponentBack", impl.ExponentBack(g, 0), -1, g, 0)
		wantNumber(t, "ExponentBack", impl.ExponentBack(g, 1), 1, g, 1)
		for n := 1; n < k.order; n++ {
			back := impl.ExponentBack(g, n)
			if back < 0 || back >= k.order || n*back%k.order != 1 {
				t.Errorf("ExponentBack(%d, %d) = %d", g, n, back)
			}
		}
		for _, n := range exponentsWrong(k) {
			wantNumber(t, "ExponentBack", impl.ExponentBack(g, n), -1, g, n)
		}
	}
	for _, g := range groupsWrong() {
		for _, n := range append([]int{-1, 0, 1, 2}, numbersFarOff...) {
			wantNumber(t, "ExponentBack", impl.ExponentBack(g, n), -1, g, n)
		}
	}
}
