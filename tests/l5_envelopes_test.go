package tests

import (
	"fmt"
	"math"
	"slices"
	"testing"

	"loop.example/sigmaproofs/impl"
)

// basesKnown is a group with a second base that is told by its exponent by the base, so that what is in an envelope is told by sums alone.
type basesKnown struct {
	g      int
	log    int
	powers []int
}

// basesOf are a group with each of its second bases: the exponent 0 would be that of 1.
func basesOf(g int) []basesKnown {
	exps := groupsKnown[g].exponents()
	var list []basesKnown
	for _, log := range exps[1:] {
		list = append(list, basesKnown{g, log, elementsFrom(g, exps)})
	}
	return list
}

func allBases() []basesKnown {
	var list []basesKnown
	for g := range groupsKnown {
		list = append(list, basesOf(g)...)
	}
	return list
}

func (b basesKnown) order() int { return groupsKnown[b.g].order }

func (b basesKnown) exponents() []int { return groupsKnown[b.g].exponents() }

func (b basesKnown) second() int { return b.powers[b.log] }

// power is the power of the base with any exponent.
func (b basesKnown) power(n int) int { return b.powers[(n%b.order()+b.order())%b.order()] }

// envelope is the one of a number with a further exponent.
func (b basesKnown) envelope(number int, further int) int {
	return b.power(number + b.log*further)
}

// furthers are the further exponents with which an envelope, told by its exponent by the base, is one of a number.
func (b basesKnown) furthers(envelope int, number int) []int {
	var list []int
	for _, further := range b.exponents() {
		if (number+b.log*further-envelope)%b.order() == 0 {
			list = append(list, further)
		}
	}
	return list
}

// ways are the further exponents of all numbers.
func (b basesKnown) ways(envelope int) [][]int {
	var list [][]int
	for _, number := range b.exponents() {
		list = append(list, b.furthers(envelope, number))
	}
	return list
}

// waysTold are the ways that the program tells, if there is one for each number.
func (b basesKnown) waysTold(t *testing.T, element int) [][]int {
	t.Helper()
	ways := impl.WaysOf(b.g, b.second(), element)
	if len(ways) != b.order() || slices.ContainsFunc(ways, func(row []int) bool { return len(row) != 1 }) {
		t.Fatalf("WaysOf(%d, %d, %d) = %v has not one further exponent for each number", b.g, b.second(), element, ways)
	}
	return ways
}

// less is the difference of two exponents, by the order.
func (b basesKnown) less(n int, by int) int {
	return (n - by + b.order()) % b.order()
}

func secondsWrong(k groupKnown) []int {
	return append([]int{1}, elementsWrong(k)...)
}

// sameRows holds rows against others, where nil and empty ones are the same.
func sameRows(a [][]int, b [][]int) bool {
	return slices.EqualFunc(a, b, func(x, y []int) bool { return slices.Equal(x, y) })
}

func wantRows(t *testing.T, what string, got [][]int, want [][]int, args ...int) {
	t.Helper()
	if !sameRows(got, want) {
		t.Errorf("%s%v = %v, want %v", what, args, got, want)
	}
}

func wantClaim(t *testing.T, what string, got impl.Claim, want impl.Claim, args ...int) {
	t.Helper()
	if got.Group != want.Group || !sameRows(got.Rows, want.Rows) || !slices.Equal(got.Makes, want.Makes) {
		t.Errorf("%s%v = %v, want %v", what, args, got, want)
	}
}

func wantNoClaim(t *testing.T, what string, got impl.Claim, args ...int) {
	t.Helper()
	if got.Group != 0 || got.Rows != nil || got.Makes != nil {
		t.Errorf("%s%v = %v, want the zero value", what, args, got)
	}
}

func wantNoWays(t *testing.T, g int, second int, envelope int) {
	t.Helper()
	if got := impl.WaysOf(g, second, envelope); got != nil {
		t.Errorf("WaysOf(%d, %d, %d) = %v, want nil", g, second, envelope, got)
	}
}

func wantBase(t *testing.T, b basesKnown, envelope int, number int, further int, other int, more int) {
	t.Helper()
	if got, ok := impl.BaseFrom(b.g, b.second(), envelope, number, further, other, more); got != b.log || !ok {
		t.Errorf("BaseFrom(%d, %d, %d, %d, %d, %d, %d) = %d, %t, want %d, true", b.g, b.second(), envelope, number, further, other, more, got, ok, b.log)
	}
}

func wantNoBase(t *testing.T, g int, second int, envelope int, ways ...int) {
	t.Helper()
	a, x, b, y := ways[0], ways[1], ways[2], ways[3]
	for range 2 {
		if got, ok := impl.BaseFrom(g, second, envelope, a, x, b, y); got != -1 || ok {
			t.Errorf("BaseFrom(%d, %d, %d, %d, %d, %d, %d) = %d, %t, want -1, false", g, second, envelope, a, x, b, y, got, ok)
		}
		a, x, b, y = b, y, a, x
	}
}

func TestP68TheBaseMayBeTheSecondOneToo(t *testing.T) {
	for g, k := range groupsKnown {
		for _, a := range k.elements {
			wantBool(t, "SecondOk", impl.SecondOk(g, a), a != 1, g, a)
		}
		wantBool(t, "SecondOk of the base", impl.SecondOk(g, k.base), true, g, k.base)
		for _, a := range secondsWrong(k) {
			wantBool(t, "SecondOk", impl.SecondOk(g, a), false, g, a)
		}
	}
	for _, g := range groupsWrong() {
		for a := -3; a < 50; a++ {
			wantBool(t, "SecondOk", impl.SecondOk(g, a), false, g, a)
		}
		for _, a := range numbersFarOff {
			wantBool(t, "SecondOk", impl.SecondOk(g, a), false, g, a)
		}
	}
}

func TestP69EnvelopesAreElements(t *testing.T) {
	for _, b := range allBases() {
		for _, number := range b.exponents() {
			for _, further := range b.exponents() {
				got := impl.EnvelopeOf(b.g, b.second(), number, further)
				wantNumber(t, "EnvelopeOf", got, b.envelope(number, further), b.g, b.second(), number, further)
				wantBool(t, "ElementOk of the envelope", impl.ElementOk(b.g, got), true, b.g, b.second(), number, further)
				wantBool(t, "EnvelopeOk", impl.EnvelopeOk(b.g, b.second(), got, number, further), true, b.g, b.second(), got, number, further)
			}
		}
	}
}

// TestEnvelopeOfEdges puts 0 and the order less 1 into envelopes, and takes the base as the second one.
func TestEnvelopeOfEdges(t *testing.T) {
	for g, k := range groupsKnown {
		last := k.order - 1
		for _, second := range k.elements[1:] {
			wantNumber(t, "EnvelopeOf", impl.EnvelopeOf(g, second, 0, 0), 1, g, second)
			wantBool(t, "EnvelopeOk of 1", impl.EnvelopeOk(g, second, 1, 0, 0), true, g, second)
			wantNumber(t, "EnvelopeOf", impl.EnvelopeOf(g, second, 1, 0), k.base, g, second)
			wantNumber(t, "EnvelopeOf", impl.EnvelopeOf(g, second, 0, 1), second, g, second)
			wantNumber(t, "EnvelopeOf", impl.EnvelopeOf(g, second, last, 0)*k.base%k.prime, 1, g, second)
			wantNumber(t, "EnvelopeOf", impl.EnvelopeOf(g, second, 0, last)*second%k.prime, 1, g, second)
			wantNumber(t, "EnvelopeOf", impl.EnvelopeOf(g, second, last, last)*k.base*second%k.prime, 1, g, second)
			for n := range k.order {
				wantNumber(t, "EnvelopeOf", impl.EnvelopeOf(g, second, n, 0), powerKnown(k, k.base, n), g, second, n)
				wantNumber(t, "EnvelopeOf", impl.EnvelopeOf(g, second, 0, n), powerKnown(k, second, n), g, second, n)
			}
		}
		for n := 1; n < k.order; n++ {
			wantNumber(t, "EnvelopeOf", impl.EnvelopeOf(g, k.base, n, k.order-n), 1, g, k.base, n)
		}
	}
}

func TestEnvelopesByHand(t *testing.T) {
	wantNumber(t, "EnvelopeOf", impl.EnvelopeOf(0, 2, 1, 1), 4)
	wantNumber(t, "EnvelopeOf", impl.EnvelopeOf(0, 4, 2, 2), 1)
	wantNumber(t, "EnvelopeOf", impl.EnvelopeOf(1, 5, 4, 3), 5)
	wantNumber(t, "EnvelopeOf", impl.EnvelopeOf(2, 3, 5, 2), 12)
	wantNumber(t, "EnvelopeOf", impl.EnvelopeOf(3, 42, 22, 21), 16)
	wantRows(t, "WaysOf", impl.WaysOf(0, 4, 1), [][]int{{0}, {1}, {2}})
	wantRows(t, "WaysOf", impl.WaysOf(0, 2, 1), [][]int{{0}, {2}, {1}})
	wantRows(t, "WaysOf", impl.WaysOf(1, 5, 1), [][]int{{0}, {3}, {1}, {4}, {2}})
	wantRows(t, "WaysOf", impl.WaysOf(2, 3, 12), [][]int{{4}, {8}, {1}, {5}, {9}, {2}, {6}, {10}, {3}, {7}, {0}})
	wantNumber(t, "EnvelopeSum", impl.EnvelopeSum(0, 2, 4, 2), 4)
	wantNumber(t, "EnvelopeSum", impl.EnvelopeSum(2, 12, 2, 3), 4)
	wantNumber(t, "EnvelopeSum", impl.EnvelopeSum(3, 42, 37, 22), 24)
	wantClaim(t, "ClaimOpen", impl.ClaimOpen(2, 3, 12), impl.Claim{Group: 2, Rows: [][]int{{2, 3}}, Makes: []int{12}})
	wantClaim(t, "ClaimNumber", impl.ClaimNumber(2, 3, 12, 5), impl.Claim{Group: 2, Rows: [][]int{{3}}, Makes: []int{9}})
	wantClaim(t, "ClaimSame", impl.ClaimSame(2, 3, 12, 4), impl.Claim{Group: 2, Rows: [][]int{{3}}, Makes: []int{3}})
}

// TestP70RelationsOpenEnvelopes tries all numbers and further exponents, and some that are no exponents.
func TestP70RelationsOpenEnvelopes(t *testing.T) {
	for _, b := range allBases() {
		numbers := append([]int{-1, b.order(), math.MinInt, math.MaxInt}, b.exponents()...)
		for envelope, element := range b.powers {
			c := impl.ClaimOpen(b.g, b.second(), element)
			for _, number := range numbers {
				furthers := []int{}
				if number >= 0 && number < b.order() {
					furthers = b.furthers(envelope, number)
				}
				for _, further := range numbers {
					got, want := impl.EnvelopeOk(b.g, b.second(), element, number, further), slices.Contains(furthers, further)
					if got != want || got != impl.Solves(c, []int{number, further}) {
						t.Errorf("EnvelopeOk(%d, %d, %d, %d, %d) = %t, want %t", b.g, b.second(), element, number, further, got, want)
					}
				}
			}
		}
	}
}

func TestP20EverythingMayBeInAnEnvelope(t *testing.T) {
	for _, b := range allBases() {
		for envelope, element := range b.powers {
			got := impl.WaysOf(b.g, b.second(), element)
			wantNumber(t, "numbers of WaysOf", len(got), b.order(), b.g, b.second(), element)
			for number, furthers := range got {
				wantNumber(t, "further exponents of WaysOf", len(furthers), 1, b.g, b.second(), element, number)
			}
			wantRows(t, "WaysOf", got, b.ways(envelope), b.g, b.second(), element)
		}
	}
}

// TestP21WhoOpensInTwoWaysKnowsTheBase takes all envelopes with all numbers twice.
func TestP21WhoOpensInTwoWaysKnowsTheBase(t *testing.T) {
	for _, b := range allBases() {
		for envelope, element := range b.powers {
			ways := b.ways(envelope)
			for number, further := range ways {
				for other, more := range ways {
					if number == other {
						wantNoBase(t, b.g, b.second(), element, number, further[0], other, more[0])
						continue
					}
					wantBase(t, b, element, number, further[0], other, more[0])
					n, _ := impl.BaseFrom(b.g, b.second(), element, number, further[0], other, more[0])
					wantNumber(t, "the power of the base", impl.ElementPower(b.g, impl.GroupBase(b.g), n), b.second(), b.g, n)
				}
			}
		}
	}
}

// TestP21FromTheProgramsOwnWays takes from WaysOf how an envelope is opened.
func TestP21FromTheProgramsOwnWays(t *testing.T) {
	for _, b := range allBases() {
		envelope := impl.EnvelopeOf(b.g, b.second(), b.order()-1, 1)
		for number, furthers := range b.waysTold(t, envelope) {
			if number != b.order()-1 {
				wantBase(t, b, envelope, b.order()-1, 1, number, furthers[0])
			}
		}
	}
}

func TestBaseFromOneNumber(t *testing.T) {
	for _, b := range allBases() {
		for envelope, element := range b.powers {
			for number, furthers := range b.ways(envelope) {
				for _, further := range b.exponents() {
					wantNoBase(t, b.g, b.second(), element, number, furthers[0], number, further)
					wantNoBase(t, b.g, b.second(), element, number, further, number, further)
				}
			}
		}
	}
}

// TestBaseFromWaysThatDoNotOpen changes one thing of two ways that tell the base.
func TestBaseFromWaysThatDoNotOpen(t *testing.T) {
	for _, b := range allBases() {
		k := groupsKnown[b.g]
		for _, element := range some(b.powers, 5) {
			envelope := slices.Index(b.powers, element)
			a, c := envelope, (envelope+2)%b.order()
			right := []int{a, b.furthers(envelope, a)[0], c, b.furthers(envelope, c)[0]}
			wantBase(t, b, element, right[0], right[1], right[2], right[3])
			for place := range right {
				numbers := append(exponentsWrong(k), right[place]+b.order(), right[place]-b.order())
				for n := range b.order() {
					if n != right[place] {
						numbers = append(numbers, n)
					}
				}
				for _, n := range numbers {
					wrong := slices.Clone(right)
					wrong[place] = n
					wantNoBase(t, b.g, b.second(), element, wrong...)
				}
			}
			for _, second := range append(secondsWrong(k), k.elements...) {
				if second != b.second() {
					wantNoBase(t, b.g, second, element, right...)
				}
			}
			for _, other := range append(elementsWrong(k), k.elements...) {
				if other != element {
					wantNoBase(t, b.g, b.second(), other, right...)
				}
			}
			for _, g := range groupsWrong() {
				wantNoBase(t, g, b.second(), element, right...)
			}
		}
	}
}

// TestP22SumsAreOpenedBySums takes all there is of the groups but the last one, and of that one a choice of what is put into both envelopes.
func TestP22SumsAreOpenedBySums(t *testing.T) {
	for g, limit := range []int{81, 625, 14641, 1500} {
		puts := rowsTried(g, 4, limit)
		for _, b := range basesOf(g) {
			for _, put := range puts {
				first, second := b.envelope(put[0], put[1]), b.envelope(put[2], put[3])
				for times := range b.order() {
					sum := impl.EnvelopeSum(g, first, second, times)
					number, further := (put[0]+times*put[2])%b.order(), (put[1]+times*put[3])%b.order()
					if !impl.EnvelopeOk(g, b.second(), sum, number, further) {
						t.Errorf("EnvelopeSum(%d, %d, %d, %d) = %d is not opened by %d and %d for %d", g, first, second, times, sum, number, further, b.second())
					}
				}
			}
		}
	}
}

func TestEnvelopeSum(t *testing.T) {
	for g, k := range groupsKnown {
		for _, a := range k.elements {
			for _, b := range k.elements {
				product := a
				for times := range k.order {
					wantNumber(t, "EnvelopeSum", impl.EnvelopeSum(g, a, b, times), product, g, a, b, times)
					product = product * b % k.prime
				}
				wantNumber(t, "EnvelopeSum", impl.EnvelopeSum(g, a, b, 0), a, g, a, b)
				wantNumber(t, "EnvelopeSum", impl.EnvelopeSum(g, a, b, 1), a*b%k.prime, g, a, b)
			}
		}
	}
}

func TestEnvelopeSumOthers(t *testing.T) {
	for g, k := range groupsKnown {
		for _, a := range k.elements {
			for _, wrong := range elementsWrong(k) {
				for _, times := range []int{0, 1, k.order - 1} {
					wantNumber(t, "EnvelopeSum", impl.EnvelopeSum(g, a, wrong, times), -1, g, a, wrong, times)
					wantNumber(t, "EnvelopeSum", impl.EnvelopeSum(g, wrong, a, times), -1, g, wrong, a, times)
				}
			}
			for _, times := range exponentsWrong(k) {
				wantNumber(t, "EnvelopeSum", impl.EnvelopeSum(g, a, k.base, times), -1, g, a, k.base, times)
				wantNumber(t, "EnvelopeSum", impl.EnvelopeSum(g, a, 1, times), -1, g, a, 1, times)
			}
			for _, wrong := range groupsWrong() {
				wantNumber(t, "EnvelopeSum", impl.EnvelopeSum(wrong, a, a, 0), -1, wrong, a, a, 0)
			}
		}
	}
}

// TestP23EveryEnvelopeCanBeOpened holds the solutions of all relations of opening against what opens.
func TestP23EveryEnvelopeCanBeOpened(t *testing.T) {
	for _, b := range allBases() {
		for envelope, element := range b.powers {
			got := impl.ClaimOpen(b.g, b.second(), element)
			wantClaim(t, "ClaimOpen", got, impl.Claim{Group: b.g, Rows: [][]int{{groupsKnown[b.g].base, b.second()}}, Makes: []int{element}}, b.g, b.second(), element)
			wantBool(t, "ClaimOk of ClaimOpen", impl.ClaimOk(got), true, b.g, b.second(), element)
			var want [][]int
			for number, furthers := range b.ways(envelope) {
				want = append(want, []int{number, furthers[0]})
			}
			list := impl.SolutionsOf(got)
			wantNumber(t, "solutions of ClaimOpen", len(list), b.order(), b.g, b.second(), element)
			wantRows(t, "SolutionsOf ClaimOpen", list, want, b.g, b.second(), element)
		}
	}
}

func TestP24AFurtherExponentSolvesIt(t *testing.T) {
	for _, b := range allBases() {
		for envelope, element := range b.powers {
			ways := b.waysTold(t, element)
			for _, number := range b.exponents() {
				got := impl.ClaimNumber(b.g, b.second(), element, number)
				wantClaim(t, "ClaimNumber", got, impl.Claim{Group: b.g, Rows: [][]int{{b.second()}}, Makes: []int{b.power(envelope - number)}}, b.g, b.second(), element, number)
				wantBool(t, "ClaimOk of ClaimNumber", impl.ClaimOk(got), true, b.g, b.second(), element, number)
				list := impl.SolutionsOf(got)
				wantRows(t, "SolutionsOf ClaimNumber", list, [][]int{ways[number]}, b.g, b.second(), element, number)
				wantRows(t, "SolutionsOf ClaimNumber", list, [][]int{b.furthers(envelope, number)}, b.g, b.second(), element, number)
			}
		}
	}
}

func TestP25DifferencesOfFurtherExponentsSolveIt(t *testing.T) {
	for _, b := range allBases() {
		var ways [][][]int
		for _, element := range b.powers {
			ways = append(ways, b.waysTold(t, element))
		}
		for envelope, element := range b.powers {
			for other, more := range b.powers {
				got := impl.ClaimSame(b.g, b.second(), element, more)
				wantClaim(t, "ClaimSame", got, impl.Claim{Group: b.g, Rows: [][]int{{b.second()}}, Makes: []int{b.power(envelope - other)}}, b.g, b.second(), element, more)
				list := impl.SolutionsOf(got)
				for number := range b.order() {
					want := [][]int{{b.less(ways[envelope][number][0], ways[other][number][0])}}
					wantRows(t, "SolutionsOf ClaimSame", list, want, b.g, b.second(), element, more, number)
				}
			}
		}
	}
}

// TestClaimSameOfOneNumber puts one number into two envelopes, and one envelope beside itself.
func TestClaimSameOfOneNumber(t *testing.T) {
	for _, b := range allBases() {
		for _, number := range b.exponents() {
			for _, x := range b.exponents() {
				y := b.less(3*x%b.order(), number)
				first, second := impl.EnvelopeOf(b.g, b.second(), number, x), impl.EnvelopeOf(b.g, b.second(), number, y)
				c := impl.ClaimSame(b.g, b.second(), first, second)
				wantBool(t, "ClaimOk of ClaimSame", impl.ClaimOk(c), true, b.g, b.second(), first, second)
				wantRows(t, "SolutionsOf ClaimSame", impl.SolutionsOf(c), [][]int{{b.less(x, y)}}, b.g, b.second(), first, second)
				itself := impl.ClaimSame(b.g, b.second(), first, first)
				wantClaim(t, "ClaimSame", itself, impl.Claim{Group: b.g, Rows: [][]int{{b.second()}}, Makes: []int{1}}, b.g, b.second(), first, first)
				wantRows(t, "SolutionsOf ClaimSame", impl.SolutionsOf(itself), [][]int{{0}}, b.g, b.second(), first, first)
			}
		}
	}
}

// TestWhatIsInAnEnvelopeIsProved talks on the relations of an envelope.
func TestWhatIsInAnEnvelopeIsProved(t *testing.T) {
	for _, b := range allBases() {
		last := b.order() - 1
		envelope, same := b.envelope(last, 1), b.envelope(last, 0)
		for ask := range b.order() {
			claims := []impl.Claim{
				impl.ClaimOpen(b.g, b.second(), envelope),
				impl.ClaimNumber(b.g, b.second(), envelope, last),
				impl.ClaimSame(b.g, b.second(), envelope, same),
			}
			for i, exps := range [][]int{{last, 1}, {1}, {1}} {
				w, ok := impl.WordsOf(claims[i], exps, exps, ask)
				wantBool(t, "WordsOf", ok, true, b.g, b.second(), i, ask)
				wantBool(t, "WordsOk", impl.WordsOk(claims[i], w), true, b.g, b.second(), i, ask)
			}
		}
	}
}

// wantNoEnvelope calls everything that takes a second base with arguments of which one is not valid.
func wantNoEnvelope(t *testing.T, g int, second int, envelope int, number int, further int) {
	t.Helper()
	// What EnvelopeOf returns for them is no envelope.
	wantBool(t, "EnvelopeOk", impl.EnvelopeOk(g, second, envelope, number, further), false, g, second, envelope, number, further)
	wantBool(t, "EnvelopeOk", impl.EnvelopeOk(g, second, -1, number, further), false, g, second, -1, number, further)
	wantNoBase(t, g, second, envelope, number, further, number, further)
	wantNoBase(t, g, second, envelope, number, further, number+1, further)
	wantNoBase(t, g, second, envelope, number, further, further, number)
	wantNoBase(t, g, second, -1, number, further, number+1, further+1)
}

func TestOfSecondBasesThatAreNone(t *testing.T) {
	refused := func(g int, second int, elements []int, order int) {
		for _, n := range []int{0, 1, order - 1} {
			wantNumber(t, "EnvelopeOf", impl.EnvelopeOf(g, second, n, 0), -1, g, second, n, 0)
			wantNumber(t, "EnvelopeOf", impl.EnvelopeOf(g, second, 0, n), -1, g, second, 0, n)
			for _, a := range elements {
				wantNoEnvelope(t, g, second, a, n, 0)
				wantNoEnvelope(t, g, second, a, 0, n)
				wantNoWays(t, g, second, a)
				wantNoClaim(t, "ClaimOpen", impl.ClaimOpen(g, second, a), g, second, a)
				wantNoClaim(t, "ClaimNumber", impl.ClaimNumber(g, second, a, n), g, second, a, n)
				wantNoClaim(t, "ClaimSame", impl.ClaimSame(g, second, a, a), g, second, a, a)
				wantNoClaim(t, "ClaimSame", impl.ClaimSame(g, second, a, 1), g, second, a, 1)
			}
		}
	}
	for g, k := range groupsKnown {
		for _, second := range secondsWrong(k) {
			refused(g, second, k.elements, k.order)
		}
		for _, wrong := range groupsWrong() {
			for _, second := range append([]int{0, -1}, k.elements...) {
				refused(wrong, second, some(k.elements, 4), k.order)
			}
		}
	}
}

func TestOfEnvelopesThatAreNone(t *testing.T) {
	for _, b := range allBases() {
		for _, wrong := range elementsWrong(groupsKnown[b.g]) {
			wantNoWays(t, b.g, b.second(), wrong)
			wantNoClaim(t, "ClaimOpen", impl.ClaimOpen(b.g, b.second(), wrong), b.g, b.second(), wrong)
			wantNoClaim(t, "ClaimSame", impl.ClaimSame(b.g, b.second(), wrong, wrong), b.g, b.second(), wrong, wrong)
			for _, n := range []int{0, 1, b.order() - 1} {
				wantBool(t, "EnvelopeOk", impl.EnvelopeOk(b.g, b.second(), wrong, n, 0), false, b.g, b.second(), wrong, n, 0)
				wantBool(t, "EnvelopeOk", impl.EnvelopeOk(b.g, b.second(), wrong, 0, n), false, b.g, b.second(), wrong, 0, n)
				wantNoClaim(t, "ClaimNumber", impl.ClaimNumber(b.g, b.second(), wrong, n), b.g, b.second(), wrong, n)
				wantNoClaim(t, "ClaimSame", impl.ClaimSame(b.g, b.second(), wrong, b.power(n)), b.g, b.second(), wrong, b.power(n))
				wantNoClaim(t, "ClaimSame", impl.ClaimSame(b.g, b.second(), b.power(n), wrong), b.g, b.second(), b.power(n), wrong)
			}
		}
	}
}

// TestOfNumbersThatAreNoExponents takes with each number the envelope that it would open by the order.
func TestOfNumbersThatAreNoExponents(t *testing.T) {
	for _, b := range allBases() {
		for _, wrong := range exponentsWrong(groupsKnown[b.g]) {
			same := (wrong%b.order() + b.order()) % b.order()
			for _, n := range b.exponents() {
				wantNumber(t, "EnvelopeOf", impl.EnvelopeOf(b.g, b.second(), wrong, n), -1, b.g, b.second(), wrong, n)
				wantNumber(t, "EnvelopeOf", impl.EnvelopeOf(b.g, b.second(), n, wrong), -1, b.g, b.second(), n, wrong)
				wantNoEnvelope(t, b.g, b.second(), b.envelope(same, n), wrong, n)
				wantNoEnvelope(t, b.g, b.second(), b.envelope(n, same), n, wrong)
				wantNoClaim(t, "ClaimNumber", impl.ClaimNumber(b.g, b.second(), b.power(n), wrong), b.g, b.second(), b.power(n), wrong)
			}
			wantNumber(t, "EnvelopeOf", impl.EnvelopeOf(b.g, b.second(), wrong, wrong), -1, b.g, b.second(), wrong, wrong)
			wantNoEnvelope(t, b.g, b.second(), b.envelope(same, same), wrong, wrong)
		}
	}
}

// opensKnown is EnvelopeOk of any numbers at all.
func opensKnown(g int, second int, envelope int, number int, further int) bool {
	if g < 0 || g >= len(groupsKnown) {
		return false
	}
	k := groupsKnown[g]
	logs := logsKnown(k)
	log, is := logs[second]
	exponent, in := logs[envelope]
	if !is || log == 0 || !in || min(number, further) < 0 || max(number, further) >= k.order {
		return false
	}
	return (number+log*further-exponent)%k.order == 0
}

// TestBaseFromOfAll tries all arguments around those of the group 0.
func TestBaseFromOfAll(t *testing.T) {
	for _, row := range rowsOfNumbers([]int{-1, 0, 1, 2, 3, 4, 5, 6, 7, 8}, 2) {
		second, envelope := row[0], row[1]
		for _, ways := range rowsOfNumbers([]int{-1, 0, 1, 2, 3}, 4) {
			a, x, b, y := ways[0], ways[1], ways[2], ways[3]
			if a != b && opensKnown(0, second, envelope, a, x) && opensKnown(0, second, envelope, b, y) {
				wantBase(t, basesOf(0)[logsKnown(groupsKnown[0])[second]-1], envelope, a, x, b, y)
			} else {
				wantNoBase(t, 0, second, envelope, ways...)
			}
		}
	}
}

// rowsOfNumbers are all rows of so many of the numbers.
func rowsOfNumbers(numbers []int, many int) [][]int {
	rows := [][]int{nil}
	for range many {
		var longer [][]int
		for _, row := range rows {
			for _, n := range numbers {
				longer = append(longer, append(slices.Clone(row), n))
			}
		}
		rows = longer
	}
	return rows
}

// TestEnvelopesOfOddArguments calls everything with numbers that do not belong together: most of it is refused, and nothing panics.
func TestEnvelopesOfOddArguments(t *testing.T) {
	numbers := []int{math.MinInt, math.MinInt + 1, -1, 0, 1, 2, 4, 12, 22, 23, math.MaxInt}
	groups := []int{math.MinInt, -1, 0, 1, 2, 3, 4, math.MaxInt}
	for _, g := range groups {
		for _, row := range rowsOfNumbers(numbers, 4) {
			second, envelope, n, further := row[0], row[1], row[2], row[3]
			wantBool(t, "EnvelopeOk", impl.EnvelopeOk(g, second, envelope, n, further), opensKnown(g, second, envelope, n, further), g, second, envelope, n, further)
			_, told := impl.BaseFrom(g, second, envelope, n, further, further, n)
			tells := n != further && opensKnown(g, second, envelope, n, further) && opensKnown(g, second, envelope, further, n)
			wantBool(t, "BaseFrom", told, tells, g, second, envelope, n, further, further, n)
		}
		for _, row := range rowsOfNumbers(numbers, 3) {
			a, b, n := row[0], row[1], row[2]
			base, second, element := impl.ElementOk(g, a), impl.ElementOk(g, a) && a != 1, impl.ElementOk(g, b)
			exponent := impl.ExponentOk(g, n)
			wantBool(t, "EnvelopeOf", impl.EnvelopeOf(g, a, n, n) >= 1, second && exponent, g, a, n, n)
			wantBool(t, "WaysOf", impl.WaysOf(g, a, b) != nil, second && element, g, a, b)
			wantBool(t, "EnvelopeSum", impl.EnvelopeSum(g, a, b, n) >= 1, base && element && exponent, g, a, b, n)
			wantBool(t, "EnvelopeSum", impl.EnvelopeSum(g, a, b, n) == -1, !(base && element && exponent), g, a, b, n)
			for what, claim := range []impl.Claim{impl.ClaimOpen(g, a, b), impl.ClaimNumber(g, a, b, n), impl.ClaimSame(g, a, b, b), impl.ClaimSame(g, a, 1, b)} {
				want := second && element && (what != 1 || exponent)
				wantBool(t, fmt.Sprint("ClaimOk of the relation ", what), impl.ClaimOk(claim), want, g, a, b, n)
				if !want {
					wantNoClaim(t, fmt.Sprint("the relation ", what), claim, g, a, b, n)
				}
			}
		}
	}
}

// TestWaysAreNewMemory writes over each row of the ways, and then looks at the others, and at the same ways once more.
func TestWaysAreNewMemory(t *testing.T) {
	for _, b := range allBases() {
		for envelope, element := range b.powers {
			want := b.ways(envelope)
			for i := range want {
				got := b.waysTold(t, element)
				spoil(got[i])
				wantRows(t, "WaysOf before the row that was written over", got[:i], want[:i], b.g, b.second(), element, i)
				wantRows(t, "WaysOf behind the row that was written over", got[i+1:], want[i+1:], b.g, b.second(), element, i)
				clear(got[:cap(got)])
			}
			wantRows(t, "WaysOf after all were written over", impl.WaysOf(b.g, b.second(), element), want, b.g, b.second(), element)
		}
	}
}

// TestRelationsOfEnvelopesAreNewMemory writes over each part of a relation, and then looks at the other part, and at the same relation once more.
func TestRelationsOfEnvelopesAreNewMemory(t *testing.T) {
	for _, b := range allBases() {
		for _, element := range b.powers {
			for what, made := range []func() impl.Claim{
				func() impl.Claim { return impl.ClaimOpen(b.g, b.second(), element) },
				func() impl.Claim { return impl.ClaimNumber(b.g, b.second(), element, 1) },
				func() impl.Claim { return impl.ClaimSame(b.g, b.second(), element, b.second()) },
			} {
				was := roomyClaim(made())
				first, second := made(), made()
				if !impl.ClaimOk(first) {
					t.Fatalf("%v is no relation", first)
				}
				spoil(first.Rows[0])
				wantList(t, "Makes beside a row that was written over", first.Makes, was.Makes, b.g, b.second(), element, what)
				spoil(second.Makes)
				wantRows(t, "Rows beside Makes that were written over", second.Rows, was.Rows, b.g, b.second(), element, what)
				clear(first.Rows[:cap(first.Rows)])
				wantClaim(t, "the relation after those before were written over", made(), was, b.g, b.second(), element, what)
			}
		}
	}
}
