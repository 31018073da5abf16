package tests

import (
	"fmt"
	"math"
	"math/bits"
	"slices"
	"testing"

	"loop.example/sigmaproofs/impl"
)

// manyKnown are elements of a group that are told by their exponents by the base, so that talks on them are made by sums alone.
type manyKnown struct {
	g    int
	logs []int
}

func (m manyKnown) order() int { return groupsKnown[m.g].order }

func (m manyKnown) many() int { return len(m.logs) }

func (m manyKnown) keys() []int { return elementsFrom(m.g, m.logs) }

// manyOfGroup are elements of one group, one of them up to MaxKeys: in the group 0 all there may be, in others those with the element 1 and with one element twice.
func manyOfGroup(g int) []manyKnown {
	var list []manyKnown
	for a := range groupsKnown[g].order {
		list = append(list, manyKnown{g, []int{a}})
	}
	last := groupsKnown[g].order - 1
	if g == 0 {
		for a := range 3 {
			for b := range 3 {
				list = append(list, manyKnown{0, []int{a, b}})
			}
		}
		return list
	}
	for _, logs := range [][]int{
		{0, 0}, {0, 1}, {last, 0}, {1, 2}, {2, 1}, {last, last}, {3, last},
		{0, 0, 0}, {1, 2, 3}, {last, 0, 1}, {2, 2, last}, {3, 3, 3},
		{0, 0, 0, 0}, {1, 2, 3, 4}, {last, last, last, last}, {4, 1, 0, 4}, {2, 0, 0, last},
	} {
		list = append(list, manyKnown{g, logs})
	}
	return list
}

func allMany() []manyKnown {
	var list []manyKnown
	for g := range groupsKnown {
		list = append(list, manyOfGroup(g)...)
	}
	return list
}

// rowsTried are rows of so many exponents of a group: all of them, if they are no more than a limit, and otherwise about as many, spread over them, with those of zeros, of the last exponent, and of one number that is not 0.
func rowsTried(g int, numbers int, limit int) [][]int {
	order, total := groupsKnown[g].order, 1
	for range numbers {
		total *= order
	}
	step := 1
	var rows [][]int
	if total > limit {
		step = total/limit + 1
		for step%order == 0 {
			step++
		}
		for place := range numbers {
			row := make([]int, numbers)
			row[place] = 1 + place%(order-1)
			rows = append(rows, row)
		}
		rows = append(rows, slices.Repeat([]int{order - 1}, numbers))
	}
	for n := 0; n < total; n += step {
		row := make([]int, numbers)
		for i, rest := 0, n; i < numbers; i++ {
			row[i] = rest % order
			rest /= order
		}
		rows = append(rows, row)
	}
	return rows
}

// lineKnown are the values of a polynomial at so many places from 1 on, and that at 0.
func lineKnown(g int, coefficients []int, many int) ([]int, int) {
	var list []int
	for x := range many + 1 {
		value, power := 0, 1
		for _, c := range coefficients {
			value, power = value+c*power, power*x
		}
		list = append(list, value%groupsKnown[g].order)
	}
	return list[1:], list[0]
}

// degreeKnown is that of a polynomial, and 0 if there is nothing but 0.
func degreeKnown(coefficients []int) int {
	degree := 0
	for i, c := range coefficients {
		if c != 0 {
			degree = i
		}
	}
	return degree
}

// right is the one talk with these questions and answers of which each single talk is right.
func (m manyKnown) right(ask int, asks []int, tells []int) impl.Some {
	var says []int
	for i, log := range m.logs {
		says = append(says, ((tells[i]-asks[i]*log)%m.order()+m.order())%m.order())
	}
	return impl.Some{Says: elementsFrom(m.g, says), Ask: ask, Asks: slices.Clone(asks), Tells: slices.Clone(tells)}
}

// behindSays is the one talk with these questions of which each single talk is right behind what is said, told by its exponents by the base.
func (m manyKnown) behindSays(says []int, ask int, asks []int) impl.Some {
	var tells []int
	for i, log := range m.logs {
		tells = append(tells, (says[i]+asks[i]*log)%m.order())
	}
	return m.right(ask, asks, tells)
}

// knowing are the exponents of the elements at some places, and -1 at the others.
func (m manyKnown) knowing(places []int) []int {
	secrets := slices.Repeat([]int{-1}, m.many())
	for _, i := range places {
		secrets[i] = m.logs[i]
	}
	return secrets
}

// placesOf are all ways to choose so many of many places.
func placesOf(many int, need int) [][]int {
	var list [][]int
	for n := range 1 << many {
		if bits.OnesCount(uint(n)) != need {
			continue
		}
		var places []int
		for i := range many {
			if n&(1<<i) != 0 {
				places = append(places, i)
			}
		}
		list = append(list, places)
	}
	return list
}

func sameSome(a impl.Some, b impl.Some) bool {
	return slices.Equal(a.Says, b.Says) && a.Ask == b.Ask && slices.Equal(a.Asks, b.Asks) && slices.Equal(a.Tells, b.Tells)
}

func cloneSome(s impl.Some) impl.Some {
	return impl.Some{Says: slices.Clone(s.Says), Ask: s.Ask, Asks: slices.Clone(s.Asks), Tells: slices.Clone(s.Tells)}
}

func wantSomeOk(t *testing.T, m manyKnown, need int, s impl.Some, want bool) {
	t.Helper()
	if got := impl.SomeOk(m.g, m.keys(), need, s); got != want {
		t.Errorf("SomeOk(%d, %v, %d, %v) = %t, want %t", m.g, m.keys(), need, s, got, want)
	}
}

func wantNoSecrets(t *testing.T, g int, keys []int, need int, a impl.Some, b impl.Some) {
	t.Helper()
	for _, pair := range [][2]impl.Some{{a, b}, {b, a}} {
		if got, ok := impl.SecretsFrom(g, keys, need, pair[0], pair[1]); got != nil || ok {
			t.Errorf("SecretsFrom(%d, %v, %d, %v, %v) = %v, %t, want nil, false", g, keys, need, pair[0], pair[1], got, ok)
		}
	}
}

func TestMaxKeys(t *testing.T) {
	wantNumber(t, "MaxKeys", impl.MaxKeys, 4)
}

func TestP65OneOfThemMayBeEnough(t *testing.T) {
	for _, m := range allMany() {
		keys := m.keys()
		for need := -1; need <= impl.MaxKeys+2; need++ {
			if !impl.KeysOk(m.g, keys, need) {
				continue
			}
			if !impl.KeysOk(m.g, keys, 1) || !impl.KeysOk(m.g, keys, len(keys)) {
				t.Errorf("KeysOk(%d, %v) holds for %d, but not for 1 and all", m.g, keys, need)
			}
		}
		wantBool(t, fmt.Sprint("KeysOk ", keys), impl.KeysOk(m.g, keys, 1), true, m.g)
	}
}

func TestKeysOk(t *testing.T) {
	for _, m := range allMany() {
		keys := m.keys()
		for need := -3; need <= impl.MaxKeys+3; need++ {
			wantBool(t, fmt.Sprint("KeysOk ", keys), impl.KeysOk(m.g, keys, need), need >= 1 && need <= len(keys), m.g, need)
		}
		for _, need := range numbersFarOff {
			wantBool(t, fmt.Sprint("KeysOk ", keys), impl.KeysOk(m.g, keys, need), false, m.g, need)
		}
		for _, g := range groupsWrong() {
			wantBool(t, fmt.Sprint("KeysOk ", keys), impl.KeysOk(g, keys, 1), false, g)
		}
		for place := range keys {
			for _, a := range elementsWrong(groupsKnown[m.g]) {
				wrong := slices.Clone(keys)
				wrong[place] = a
				for need := range len(keys) + 2 {
					wantBool(t, fmt.Sprint("KeysOk ", wrong), impl.KeysOk(m.g, wrong, need), false, m.g, need)
				}
			}
		}
	}
}

// TestKeysOkAsManyAsTheyMayBe tries one element as often as can be, and then more often.
func TestKeysOkAsManyAsTheyMayBe(t *testing.T) {
	most := []int{2, 4, 4, 4}
	for g, k := range groupsKnown {
		for _, a := range k.elements {
			for many := range 30 {
				keys := slices.Repeat([]int{a}, many)
				for need := range many + 2 {
					want := many <= most[g] && need >= 1 && need <= many
					wantBool(t, fmt.Sprint("KeysOk ", keys), impl.KeysOk(g, keys, need), want, g, need)
				}
			}
		}
		for need := -1; need < 3; need++ {
			wantBool(t, "KeysOk of nil ", impl.KeysOk(g, nil, need), false, g, need)
			wantBool(t, "KeysOk of none ", impl.KeysOk(g, []int{}, need), false, g, need)
			wantBool(t, "KeysOk of many ", impl.KeysOk(g, slices.Repeat([]int{1}, 1000), need), false, g, need)
		}
	}
}

// mostKeys are as many elements as there may be in a group.
func mostKeys(g int) int {
	return min(impl.MaxKeys, groupsKnown[g].order-1)
}

// TestP66MoreToBeKnownIsMoreInLine takes questions from polynomials: those at 0 and at so many places are the values of just one whose degree is at most their number.
func TestP66MoreToBeKnownIsMoreInLine(t *testing.T) {
	for g := range groupsKnown {
		for many := 1; many <= mostKeys(g); many++ {
			for _, coefficients := range rowsTried(g, many+1, 15000) {
				asks, ask := lineKnown(g, coefficients, many)
				before := true
				for need := 1; need <= many; need++ {
					got, want := impl.LinesUp(g, need, ask, asks), degreeKnown(coefficients) <= many-need
					if got != want || got && !before {
						t.Fatalf("LinesUp(%d, %d, %d, %v) = %t, want %t", g, need, ask, asks, got, want)
					}
					before = got
				}
				all := slices.Equal(asks, slices.Repeat([]int{ask}, many))
				wantBool(t, fmt.Sprint("LinesUp ", ask, asks, " for all"), impl.LinesUp(g, many, ask, asks), all, g)
			}
		}
	}
}

func TestLinesUpByHand(t *testing.T) {
	wantBool(t, "LinesUp", impl.LinesUp(0, 1, 0, []int{0}), true)
	wantBool(t, "LinesUp", impl.LinesUp(0, 1, 0, []int{1}), false)
	wantBool(t, "LinesUp", impl.LinesUp(0, 1, 2, []int{0, 1}), true)
	wantBool(t, "LinesUp", impl.LinesUp(0, 1, 2, []int{1, 0}), true)
	wantBool(t, "LinesUp", impl.LinesUp(0, 1, 2, []int{1, 1}), false)
	wantBool(t, "LinesUp", impl.LinesUp(0, 2, 2, []int{1, 0}), false)
	wantBool(t, "LinesUp", impl.LinesUp(0, 2, 2, []int{2, 2}), true)
	// 0, 1, 4, 9 and 16 lie on a polynomial of the degree 2: two of four may be known, and no more.
	for need, want := range []bool{false, true, true, false, false, false} {
		wantBool(t, "LinesUp", impl.LinesUp(3, need, 0, []int{1, 4, 9, 16}), want, need)
		wantBool(t, "LinesUp", impl.LinesUp(2, need, 0, []int{1, 4, 9, 5}), want, need)
		wantBool(t, "LinesUp", impl.LinesUp(1, need, 0, []int{1, 4, 4, 1}), want, need)
	}
	// 0, 1, 8, 27 and 64 lie on one of the degree 3: one of four may be known, and no more.
	for need, want := range []bool{false, true, false, false, false, false} {
		wantBool(t, "LinesUp", impl.LinesUp(3, need, 0, []int{1, 8, 4, 18}), want, need)
		wantBool(t, "LinesUp", impl.LinesUp(2, need, 0, []int{1, 8, 5, 9}), want, need)
		wantBool(t, "LinesUp", impl.LinesUp(1, need, 0, []int{1, 3, 2, 4}), want, need)
	}
	for need := range 6 {
		wantBool(t, "LinesUp", impl.LinesUp(3, need, 0, []int{1, 4, 9, 17}), false, need)
	}
}

// TestLinesUpOthers asks with the whole question and questions that are all the same, which line up for all, but for what is wrong.
func TestLinesUpOthers(t *testing.T) {
	for g, k := range groupsKnown {
		for n := range k.order {
			for many := range 12 {
				asks := slices.Repeat([]int{n}, many)
				for need := range many + 3 {
					want := many <= mostKeys(g) && need >= 1 && need <= many
					wantBool(t, fmt.Sprint("LinesUp ", n, asks), impl.LinesUp(g, need, n, asks), want, g, need)
				}
				for _, need := range append([]int{-1, -2}, numbersFarOff...) {
					wantBool(t, fmt.Sprint("LinesUp ", n, asks), impl.LinesUp(g, need, n, asks), false, g, need)
				}
				for _, wrong := range groupsWrong() {
					wantBool(t, fmt.Sprint("LinesUp ", n, asks), impl.LinesUp(wrong, 1, n, asks), false, wrong)
				}
			}
		}
		wantBool(t, "LinesUp of nil", impl.LinesUp(g, 1, 0, nil), false, g)
		wantBool(t, "LinesUp of nil", impl.LinesUp(g, 0, 0, nil), false, g)
		wantBool(t, "LinesUp of none", impl.LinesUp(g, 1, 0, []int{}), false, g)
		wantBool(t, "LinesUp of many", impl.LinesUp(g, 1, 0, make([]int, 1000)), false, g)
	}
}

func TestLinesUpOfNoExponents(t *testing.T) {
	for g, k := range groupsKnown {
		for _, n := range exponentsWrong(k) {
			// By the order it is an exponent, with which all would line up.
			same := (n%k.order + k.order) % k.order
			for many := 1; many <= mostKeys(g); many++ {
				for need := 1; need <= many; need++ {
					asks := slices.Repeat([]int{same}, many)
					wantBool(t, fmt.Sprint("LinesUp ", n, asks), impl.LinesUp(g, need, n, asks), false, g, need)
					for place := range many {
						wrong := slices.Clone(asks)
						wrong[place] = n
						wantBool(t, fmt.Sprint("LinesUp ", same, wrong), impl.LinesUp(g, need, same, wrong), false, g, need)
					}
					all := slices.Repeat([]int{n}, many)
					wantBool(t, fmt.Sprint("LinesUp ", n, all), impl.LinesUp(g, need, n, all), false, g, need)
				}
			}
		}
	}
}

func TestP67FewerAreKnownToo(t *testing.T) {
	for _, m := range allMany() {
		for _, coefficients := range rowsTried(m.g, m.many()+1, 60) {
			asks, ask := lineKnown(m.g, coefficients, m.many())
			for _, tells := range rowsTried(m.g, m.many(), 8) {
				s := m.right(ask, asks, tells)
				before := true
				for need := 1; need <= m.many(); need++ {
					got, want := impl.SomeOk(m.g, m.keys(), need, s), degreeKnown(coefficients) <= m.many()-need
					if got != want || got && !before {
						t.Fatalf("SomeOk(%d, %v, %d, %v) = %t, want %t", m.g, m.keys(), need, s, got, want)
					}
					before = got
				}
			}
		}
	}
}

// TestSomeOkWithOneNumberChanged: behind each single talk only one number goes with the two others, but for the question on the element 1.
func TestSomeOkWithOneNumberChanged(t *testing.T) {
	for _, m := range allMany() {
		k := groupsKnown[m.g]
		for _, coefficients := range rowsTried(m.g, m.many(), 4) {
			asks, ask := lineKnown(m.g, coefficients, m.many())
			right := m.right(ask, asks, rowsTried(m.g, m.many(), 1)[0])
			for place := range m.many() {
				for n := 1; n < k.order; n++ {
					changed := cloneSome(right)
					changed.Tells[place] = (changed.Tells[place] + n) % k.order
					wantSomeOk(t, m, 1, changed, false)
					changed = cloneSome(right)
					changed.Says[place] = changed.Says[place] * powerKnown(k, k.base, n) % k.prime
					wantSomeOk(t, m, 1, changed, false)
					changed = cloneSome(right)
					changed.Asks[place] = (changed.Asks[place] + n) % k.order
					wantSomeOk(t, m, 1, changed, false)
					// All questions up by as much line up again, but the single talks are right of the element 1 only.
					changed = cloneSome(right)
					changed.Ask = (changed.Ask + n) % k.order
					wantSomeOk(t, m, 1, changed, false)
					for i := range changed.Asks {
						changed.Asks[i] = (changed.Asks[i] + n) % k.order
					}
					wantSomeOk(t, m, 1, changed, !slices.ContainsFunc(m.logs, func(log int) bool { return log != 0 }))
				}
			}
		}
	}
}

// someWrong are talks that are right but for one thing.
func someWrong(m manyKnown, right impl.Some) []impl.Some {
	var list []impl.Some
	one := func(change func(s *impl.Some)) {
		s := cloneSome(right)
		change(&s)
		list = append(list, s)
	}
	// Each of the three lists, or all of them at once.
	for which := range 4 {
		lists := func(change func(list *[]int)) {
			one(func(s *impl.Some) {
				for i, list := range []*[]int{&s.Says, &s.Asks, &s.Tells} {
					if which == i || which == 3 {
						change(list)
					}
				}
			})
		}
		lists(func(list *[]int) { *list = nil })
		lists(func(list *[]int) { *list = []int{} })
		lists(func(list *[]int) { *list = (*list)[1:] })
		lists(func(list *[]int) { *list = (*list)[:len(*list)-1] })
		lists(func(list *[]int) { *list = append(*list, 1) })
		lists(func(list *[]int) { *list = append(*list, (*list)[0]) })
		lists(func(list *[]int) { *list = make([]int, 1000) })
	}
	for place := range m.many() {
		for _, a := range elementsWrong(groupsKnown[m.g]) {
			one(func(s *impl.Some) { s.Says[place] = a })
		}
		for _, n := range append(exponentsWrong(groupsKnown[m.g]), right.Asks[place]+m.order(), right.Asks[place]-m.order()) {
			one(func(s *impl.Some) { s.Asks[place] = n })
		}
		for _, n := range append(exponentsWrong(groupsKnown[m.g]), right.Tells[place]+m.order(), right.Tells[place]-m.order()) {
			one(func(s *impl.Some) { s.Tells[place] = n })
		}
	}
	for _, n := range append(exponentsWrong(groupsKnown[m.g]), right.Ask+m.order(), right.Ask-m.order()) {
		one(func(s *impl.Some) { s.Ask = n })
	}
	return append(list, impl.Some{}, impl.Some{Says: []int{}, Asks: []int{}, Tells: []int{}})
}

func TestOfTalksThatAreNotRight(t *testing.T) {
	for _, m := range allMany() {
		for _, says := range rowsTried(m.g, m.many(), 2) {
			same := func(ask int) impl.Some { return m.behindSays(says, ask, slices.Repeat([]int{ask}, m.many())) }
			right, other := same(1), same(2)
			for need := 1; need <= m.many(); need++ {
				wantSomeOk(t, m, need, right, true)
				for _, wrong := range someWrong(m, right) {
					wantSomeOk(t, m, need, wrong, false)
					wantNoSecrets(t, m.g, m.keys(), need, wrong, other)
					wantNoSecrets(t, m.g, m.keys(), need, wrong, right)
					wantNoSecrets(t, m.g, m.keys(), need, wrong, wrong)
				}
			}
		}
	}
}

// TestTalksOnOthersThanTheElements asks for elements, numbers and groups that KeysOk does not take.
func TestTalksOnOthersThanTheElements(t *testing.T) {
	for _, m := range allMany() {
		keys, zeros := m.keys(), make([]int, m.many())
		right, other := m.right(0, zeros, zeros), m.behindSays(zeros, 1, slices.Repeat([]int{1}, m.many()))
		refused := func(g int, keys []int, need int) {
			t.Helper()
			wantBool(t, fmt.Sprint("SomeOk ", keys, right), impl.SomeOk(g, keys, need, right), false, g, need)
			wantBool(t, fmt.Sprint("SomeOk ", keys), impl.SomeOk(g, keys, need, impl.Some{}), false, g, need)
			wantNoSecrets(t, g, keys, need, right, other)
			wantNoSecrets(t, g, keys, need, impl.Some{}, impl.Some{Ask: 1})
			wantNumber(t, fmt.Sprint("SomeMany ", keys), impl.SomeMany(g, keys, need, 0), -1, g, need)
			got, ok := impl.SomeOf(g, keys, need, m.logs, zeros, zeros, 0)
			wantNoSome(t, got, ok, g, keys, need)
		}
		for _, g := range groupsWrong() {
			refused(g, keys, m.many())
		}
		for _, need := range append([]int{0, -1, m.many() + 1, m.many() + 2}, numbersFarOff...) {
			refused(m.g, keys, need)
		}
		for place := range keys {
			for _, a := range elementsWrong(groupsKnown[m.g]) {
				wrong := slices.Clone(keys)
				wrong[place] = a
				refused(m.g, wrong, m.many())
			}
		}
		refused(m.g, nil, 1)
		refused(m.g, []int{}, 0)
		refused(m.g, make([]int, 1000), 1)
	}
}

// TestOfTooManyElements takes talks that are right but for the number of the elements.
func TestOfTooManyElements(t *testing.T) {
	for g := range groupsKnown {
		for many := mostKeys(g) + 1; many < mostKeys(g)+9; many++ {
			m := manyKnown{g, slices.Repeat([]int{1}, many)}
			zeros, ones := make([]int, many), slices.Repeat([]int{1}, many)
			for need := range many + 2 {
				right, other := m.right(0, zeros, zeros), m.behindSays(zeros, 1, ones)
				wantSomeOk(t, m, need, right, false)
				wantNoSecrets(t, g, m.keys(), need, right, other)
				got, ok := impl.SomeOf(g, m.keys(), need, m.knowing(placesOf(many, min(need, many))[0]), zeros, zeros, 0)
				wantNoSome(t, got, ok, g, m.keys(), need)
				wantNumber(t, fmt.Sprint("SomeMany ", m.keys()), impl.SomeMany(g, m.keys(), need, 0), -1, g, need)
			}
		}
	}
}

func wantNoSome(t *testing.T, got impl.Some, ok bool, args ...any) {
	t.Helper()
	if ok || !sameSome(got, impl.Some{}) {
		t.Errorf("SomeOf%v = %v, %t, want the zero value, false", args, got, ok)
	}
}

// knowledge are the arguments of SomeOf.
type knowledge struct {
	g       int
	keys    []int
	need    int
	secrets []int
	first   []int
	second  []int
	ask     int
}

func (k knowledge) talk() (impl.Some, bool) {
	return impl.SomeOf(k.g, k.keys, k.need, k.secrets, k.first, k.second, k.ask)
}

// told are the arguments of SomeOf with which the elements at some places are known, and the talk is one with these questions. The exponents that are left free are the further ones of those places, and the answers at the others.
func (m manyKnown) told(places []int, ask int, asks []int, free []int) (knowledge, impl.Some) {
	k := knowledge{m.g, m.keys(), len(places), m.knowing(places), slices.Clone(asks), slices.Clone(free), ask}
	tells := slices.Clone(free)
	for _, i := range places {
		k.first[i], k.second[i] = free[i], 0
		tells[i] = (free[i] + asks[i]*m.logs[i]) % m.order()
	}
	return k, m.right(ask, asks, tells)
}

// allTold calls for some of all arguments that SomeOf takes, with the talk that it must return.
func (m manyKnown) allTold(lines int, frees int, do func(places []int, k knowledge, want impl.Some)) {
	for need := 1; need <= m.many(); need++ {
		for _, coefficients := range rowsTried(m.g, m.many()-need+1, lines) {
			asks, ask := lineKnown(m.g, coefficients, m.many())
			for _, free := range rowsTried(m.g, m.many(), frees) {
				for _, places := range placesOf(m.many(), need) {
					k, want := m.told(places, ask, asks, free)
					do(places, k, want)
				}
			}
		}
	}
}

func TestP16TrueTalksAreRight(t *testing.T) {
	for _, m := range allMany() {
		m.allTold(30, 9, func(places []int, k knowledge, want impl.Some) {
			got, ok := k.talk()
			if !ok || !sameSome(got, want) {
				t.Fatalf("SomeOf %v = %v, %t, want %v, true", k, got, ok, want)
			}
			for need := range m.many() + 2 {
				if need >= 1 && need <= len(places) {
					wantSomeOk(t, m, need, got, true)
				}
			}
		})
	}
}

func TestSomeOfByHand(t *testing.T) {
	tried := []struct {
		known knowledge
		want  impl.Some
	}{
		{knowledge{2, []int{4, 8}, 1, []int{2, -1}, []int{1, 9}, []int{0, 4}, 5}, impl.Some{Says: []int{2, 12}, Ask: 5, Asks: []int{7, 9}, Tells: []int{4, 4}}},
		{knowledge{2, []int{4, 8}, 1, []int{-1, 3}, []int{7, 10}, []int{4, 0}, 5}, impl.Some{Says: []int{2, 12}, Ask: 5, Asks: []int{7, 9}, Tells: []int{4, 4}}},
		{knowledge{0, []int{1}, 1, []int{0}, []int{0}, []int{0}, 0}, impl.Some{Says: []int{1}, Ask: 0, Asks: []int{0}, Tells: []int{0}}},
		{knowledge{0, []int{2}, 1, []int{1}, []int{2}, []int{0}, 2}, impl.Some{Says: []int{4}, Ask: 2, Asks: []int{2}, Tells: []int{1}}},
		{knowledge{1, []int{1, 3, 1}, 2, []int{0, -1, 0}, []int{1, 4, 0}, []int{0, 2, 0}, 0}, impl.Some{Says: []int{3, 5, 1}, Ask: 0, Asks: []int{2, 4, 1}, Tells: []int{1, 2, 0}}},
	}
	for _, one := range tried {
		if got, ok := one.known.talk(); !ok || !sameSome(got, one.want) {
			t.Errorf("SomeOf %v = %v, %t, want %v", one.known, got, ok, one.want)
		}
	}
}

// knowledgeWrong are arguments that SomeOf takes but for one thing.
func knowledgeWrong(m manyKnown, places []int, right knowledge) []knowledge {
	var list []knowledge
	one := func(change func(k *knowledge)) {
		k := right
		k.keys, k.secrets = slices.Clone(k.keys), slices.Clone(k.secrets)
		k.first, k.second = slices.Clone(k.first), slices.Clone(k.second)
		change(&k)
		list = append(list, k)
	}
	for which := range 4 {
		lists := func(change func(list *[]int)) {
			one(func(k *knowledge) { change([]*[]int{&k.keys, &k.secrets, &k.first, &k.second}[which]) })
		}
		lists(func(list *[]int) { *list = nil })
		lists(func(list *[]int) { *list = []int{} })
		lists(func(list *[]int) { *list = (*list)[1:] })
		lists(func(list *[]int) { *list = (*list)[:len(*list)-1] })
		lists(func(list *[]int) { *list = append(*list, 0) })
		lists(func(list *[]int) { *list = append(*list, 1) })
		lists(func(list *[]int) { *list = append(*list, -1) })
		lists(func(list *[]int) { *list = make([]int, 1000) })
	}
	for _, need := range append([]int{right.need - 1, right.need + 1, 0, -1, -right.need, m.many() + 1}, numbersFarOff...) {
		one(func(k *knowledge) { k.need = need })
	}
	for _, n := range append(exponentsWrong(groupsKnown[m.g]), right.ask+m.order(), right.ask-m.order()) {
		one(func(k *knowledge) { k.ask = n })
		for i := range m.many() {
			one(func(k *knowledge) { k.first[i] = n })
			one(func(k *knowledge) { k.second[i] = n })
			if n != -1 {
				one(func(k *knowledge) { k.secrets[i] = n })
			}
		}
	}
	for i := range m.many() {
		for n := 1; n < m.order(); n++ {
			one(func(k *knowledge) { k.secrets[i] = (m.logs[i] + n) % m.order() })
		}
		one(func(k *knowledge) { k.secrets[i] = m.logs[i] + m.order() })
		one(func(k *knowledge) { k.secrets[i] = m.logs[i] - m.order() - 1 })
		if slices.Contains(places, i) {
			one(func(k *knowledge) { k.secrets[i] = -1 })
			for n := 1; n < m.order(); n++ {
				one(func(k *knowledge) { k.second[i] = n })
			}
		} else {
			one(func(k *knowledge) { k.secrets[i], k.second[i] = m.logs[i], 0 })
			// As many numbers as are to be known, but one of them not the right exponent.
			one(func(k *knowledge) {
				k.secrets[places[0]], k.secrets[i], k.second[i] = -1, (m.logs[i]+1)%m.order(), 0
			})
		}
	}
	return list
}

func TestSomeOfOthers(t *testing.T) {
	for _, m := range allMany() {
		m.allTold(1, 1, func(places []int, k knowledge, want impl.Some) {
			if _, ok := k.talk(); !ok {
				t.Errorf("SomeOf %v is refused", k)
			}
			for _, wrong := range knowledgeWrong(m, places, k) {
				got, ok := wrong.talk()
				wantNoSome(t, got, ok, wrong)
			}
		})
	}
}

// otherLine are questions that are on a polynomial with those of another one, at so many places the same ones, and another whole question.
func otherLine(g int, ask int, asks []int, same []int, times int) ([]int, int) {
	order := groupsKnown[g].order
	var list []int
	for x := range len(asks) + 1 {
		value := times
		for _, i := range same {
			value *= x - i - 1
		}
		list = append(list, value)
	}
	return mix(g, asks, 1, list[1:]), ((ask+list[0])%order + order) % order
}

func TestP17TwoAnswersTellSoManyExponents(t *testing.T) {
	for _, m := range allMany() {
		for need := 1; need <= m.many(); need++ {
			for _, coefficients := range rowsTried(m.g, m.many()-need+1, 9) {
				asks, ask := lineKnown(m.g, coefficients, m.many())
				for _, says := range rowsTried(m.g, m.many(), 5) {
					a := m.behindSays(says, ask, asks)
					for same := range m.many() - need + 1 {
						for _, places := range placesOf(m.many(), same) {
							for _, times := range []int{1, m.order() - 1} {
								others, other := otherLine(m.g, ask, asks, places, times)
								b := m.behindSays(says, other, others)
								m.wantSecrets(t, need, a, b)
							}
						}
					}
				}
			}
		}
	}
}

// wantSecrets holds what two talks tell against the exponents of the elements that are asked differently.
func (m manyKnown) wantSecrets(t *testing.T, need int, a impl.Some, b impl.Some) {
	t.Helper()
	want, told := slices.Clone(m.logs), 0
	for i := range want {
		if a.Asks[i] == b.Asks[i] {
			want[i] = -1
		} else {
			told++
		}
	}
	for _, pair := range [][2]impl.Some{{a, b}, {b, a}} {
		got, ok := impl.SecretsFrom(m.g, m.keys(), need, pair[0], pair[1])
		if !ok || !slices.Equal(got, want) || told < need {
			t.Errorf("SecretsFrom(%d, %v, %d, %v, %v) = %v, %t, want %v, true", m.g, m.keys(), need, pair[0], pair[1], got, ok, want)
		}
	}
}

// TestP17OfAllTalks takes all pairs of right talks on elements of the group 0.
func TestP17OfAllTalks(t *testing.T) {
	for _, m := range manyOfGroup(0) {
		for need := 1; need <= m.many(); need++ {
			list := allRight(m, need)
			for _, a := range list {
				for _, b := range list {
					if slices.Equal(a.Says, b.Says) && a.Ask != b.Ask {
						m.wantSecrets(t, need, a, b)
					} else {
						wantNoSecrets(t, 0, m.keys(), need, a, b)
					}
				}
			}
		}
	}
}

// allRight are all right talks, for each whole question, by sums of exponents alone.
func allRight(m manyKnown, need int) []impl.Some {
	var list []impl.Some
	for _, coefficients := range rowsTried(m.g, m.many()-need+1, math.MaxInt) {
		asks, ask := lineKnown(m.g, coefficients, m.many())
		for _, tells := range rowsTried(m.g, m.many(), math.MaxInt) {
			list = append(list, m.right(ask, asks, tells))
		}
	}
	return list
}

// TestP17FromTheProgramsOwnTalks asks who knows some once more: what was made up must be said again, so just what is known is told.
func TestP17FromTheProgramsOwnTalks(t *testing.T) {
	for _, m := range allMany() {
		m.allTold(3, 3, func(places []int, k knowledge, _ impl.Some) {
			a, _ := k.talk()
			other := k
			other.ask = (k.ask + 1) % m.order()
			b, _ := other.talk()
			got, ok := impl.SecretsFrom(m.g, m.keys(), len(places), a, b)
			if !ok {
				t.Errorf("SecretsFrom(%d, %v, %d, %v, %v) = %v, false", m.g, m.keys(), len(places), a, b, got)
			}
			wantList(t, "SecretsFrom", got, k.secrets, m.g, m.keys(), len(places), a, b)
			wantNoSecrets(t, m.g, m.keys(), len(places), a, a)
			if len(places) < m.many() {
				wantNoSecrets(t, m.g, m.keys(), m.many(), a, b)
			}
		})
	}
}

// TestSecretsFromOneQuestion takes talks with the same whole question, of which single ones are asked differently.
func TestSecretsFromOneQuestion(t *testing.T) {
	for _, m := range allMany() {
		for need := 1; need < m.many(); need++ {
			for _, says := range rowsTried(m.g, m.many(), 3) {
				first, ask := lineKnown(m.g, []int{1, 1}, m.many())
				second, _ := lineKnown(m.g, []int{1, 2}, m.many())
				a, b := m.behindSays(says, ask, first), m.behindSays(says, ask, second)
				wantSomeOk(t, m, need, a, true)
				wantSomeOk(t, m, need, b, true)
				wantNoSecrets(t, m.g, m.keys(), need, a, b)
				wantNoSecrets(t, m.g, m.keys(), need, a, a)
			}
		}
	}
}

func TestSecretsFromAfterOtherSays(t *testing.T) {
	for _, m := range allMany() {
		for _, says := range rowsTried(m.g, m.many(), 3) {
			a := m.behindSays(says, 0, make([]int, m.many()))
			for place := range m.many() {
				others := slices.Clone(says)
				others[place] = (others[place] + 1) % m.order()
				b := m.behindSays(others, 1, slices.Repeat([]int{1}, m.many()))
				for need := 1; need <= m.many(); need++ {
					wantSomeOk(t, m, need, b, true)
					wantNoSecrets(t, m.g, m.keys(), need, a, b)
				}
			}
		}
	}
}

func TestP18AllRightTalksAreCounted(t *testing.T) {
	for _, m := range manyOfGroup(0) {
		counted := manyCounted(m)
		for need := 1; need <= m.many(); need++ {
			for ask := range 3 {
				got := impl.SomeMany(0, m.keys(), need, ask)
				wantNumber(t, fmt.Sprint("SomeMany ", m.keys()), got, counted[need][ask], need, ask)
				wantNumber(t, fmt.Sprint("SomeMany ", m.keys()), got, []int{3, 9, 27}[2*m.many()-need-1], need, ask)
			}
		}
	}
}

// manyCounted tries all talks on elements of the group 0, and counts the right ones by how many are to be known, and by the whole question.
func manyCounted(m manyKnown) [3][3]int {
	var counted [3][3]int
	for _, row := range rowsTried(0, 1+3*m.many(), math.MaxInt) {
		ask, rest := row[0], row[1:]
		s := impl.Some{Says: elementsFrom(0, rest[:m.many()]), Ask: ask, Asks: rest[m.many() : 2*m.many()], Tells: rest[2*m.many():]}
		for need := 1; need <= m.many(); need++ {
			if impl.SomeOk(0, m.keys(), need, s) {
				counted[need][ask]++
			}
		}
	}
	return counted
}

func TestSomeMany(t *testing.T) {
	// By the exponent of the order: from one of one on up to one of four.
	powers := [][]int{
		{3, 9, 27},
		{5, 25, 125, 625, 3125, 15625, 78125},
		{11, 121, 1331, 14641, 161051, 1771561, 19487171},
		{23, 529, 12167, 279841, 6436343, 148035889, 3404825447},
	}
	for _, m := range allMany() {
		for need := 1; need <= m.many(); need++ {
			for ask := range m.order() {
				got := impl.SomeMany(m.g, m.keys(), need, ask)
				wantNumber(t, fmt.Sprint("SomeMany ", m.keys()), got, powers[m.g][2*m.many()-need-1], m.g, need, ask)
			}
			for _, ask := range exponentsWrong(groupsKnown[m.g]) {
				wantNumber(t, fmt.Sprint("SomeMany ", m.keys()), impl.SomeMany(m.g, m.keys(), need, ask), -1, m.g, need, ask)
			}
		}
	}
}

// numbersOf writes talks as numbers in ascending order, each digit at its own place in the base 50.
func numbersOf(list []impl.Some) []int {
	var numbers []int
	for _, s := range list {
		number, place := 0, 1
		for i := len(s.Says) - 1; i >= 0; i-- {
			number += place * (s.Tells[i] + 50*s.Asks[i] + 2500*s.Says[i])
			place *= 125000
		}
		numbers = append(numbers, number)
	}
	slices.Sort(numbers)
	return numbers
}

func TestP19WhichOnesAreKnownIsNotTold(t *testing.T) {
	for _, m := range manyOfGroup(0) {
		for need := 1; need <= m.many(); need++ {
			for ask := range 3 {
				want := numbersOf(slices.DeleteFunc(allRight(m, need), func(s impl.Some) bool { return s.Ask != ask }))
				for _, places := range placesOf(m.many(), need) {
					secrets := m.knowing(places)
					got := impl.TalksBy(m.keys(), need, secrets, ask)
					wantList(t, "TalksBy", got, want, m.keys(), need, secrets, ask)
					wantNumber(t, fmt.Sprint("talks by ", m.keys(), secrets), len(got), impl.SomeMany(0, m.keys(), need, ask), need, ask)
					for i := 1; i < len(got); i++ {
						if got[i-1] >= got[i] {
							t.Errorf("TalksBy(%v, %d, %v, %d) = %v is not in ascending order", m.keys(), need, secrets, ask, got)
						}
					}
				}
			}
		}
	}
}

func TestTalksByByHand(t *testing.T) {
	wantList(t, "TalksBy", impl.TalksBy([]int{2}, 1, []int{1}, 2), []int{2602, 5100, 10101})
	wantList(t, "TalksBy", impl.TalksBy([]int{1}, 1, []int{0}, 0), []int{2500, 5001, 10002})
	all := []int{325252601, 325255102, 325260100, 637502601, 637505102, 637510100, 1262627601, 1262630102, 1262635100}
	wantList(t, "TalksBy", impl.TalksBy([]int{2, 4}, 2, []int{1, 2}, 2), all)
	for _, secrets := range [][]int{{1, -1}, {-1, 2}} {
		list := impl.TalksBy([]int{2, 4}, 1, secrets, 2)
		if len(list) != 27 || list[0] != 312502552 || list[26] != 1262635100 {
			t.Errorf("TalksBy(2 4, 1, %v, 2) = %v", secrets, list)
		}
		for _, number := range all {
			wantBool(t, fmt.Sprint("one of ", list), slices.Contains(list, number), true, number)
		}
	}
}

func TestTalksByOthers(t *testing.T) {
	refused := func(keys []int, need int, secrets []int, ask int) {
		t.Helper()
		if got := impl.TalksBy(keys, need, secrets, ask); got != nil {
			t.Errorf("TalksBy(%v, %d, %v, %d) = %v, want nil", keys, need, secrets, ask, got)
		}
	}
	for _, m := range manyOfGroup(0) {
		m.allTold(1, 1, func(places []int, k knowledge, _ impl.Some) {
			if impl.TalksBy(k.keys, k.need, k.secrets, k.ask) == nil {
				t.Errorf("TalksBy(%v, %d, %v, %d) = nil", k.keys, k.need, k.secrets, k.ask)
			}
			for _, wrong := range knowledgeWrong(m, places, k) {
				// The exponents that are left free are not told to TalksBy.
				if slices.Equal(wrong.first, k.first) && slices.Equal(wrong.second, k.second) {
					refused(wrong.keys, wrong.need, wrong.secrets, wrong.ask)
				}
			}
			for place := range m.many() {
				for _, a := range elementsWrong(groupsKnown[0]) {
					keys := slices.Clone(k.keys)
					keys[place] = a
					refused(keys, k.need, k.secrets, k.ask)
				}
			}
		})
	}
	for many := 3; many < 9; many++ {
		for need := range many + 2 {
			secrets := slices.Repeat([]int{-1}, many)
			for i := range min(need, many) {
				secrets[i] = 1
			}
			refused(slices.Repeat([]int{2}, many), need, secrets, 0)
		}
	}
	refused(nil, 1, nil, 0)
	refused(nil, 0, nil, 0)
	refused([]int{}, 0, []int{}, 0)
	refused(slices.Repeat([]int{1}, 1<<16), 1, make([]int, 1<<16), 0)
}

// TestManyOfOddArguments calls everything with lists and numbers that do not belong together: most of it is refused, and nothing panics.
func TestManyOfOddArguments(t *testing.T) {
	numbers := []int{math.MinInt, -1, 0, 1, 2, 4, math.MaxInt}
	lists := [][]int{nil, {}, {1}, {0}, {-1}, {2, 4}, {0, -1}, {math.MaxInt, math.MinInt}, {1, 1, 1, 1}, {1, 1, 1, 1, 1}}
	for _, g := range []int{math.MinInt, -1, 0, 2, 3, 4, math.MaxInt} {
		for _, need := range numbers {
			for _, ask := range numbers {
				for _, a := range lists {
					taken := impl.KeysOk(g, a, need)
					ok := impl.LinesUp(g, need, ask, a)
					wantBool(t, fmt.Sprint("LinesUp ", a), ok && !(g >= 0 && g <= 3), false, g, need, ask)
					many := impl.SomeMany(g, a, need, ask)
					wantBool(t, fmt.Sprint("SomeMany ", a, " is counted"), many > 0, taken && impl.ExponentOk(g, ask), g, need, ask)
					for _, b := range lists {
						s := impl.Some{Says: a, Ask: ask, Asks: b, Tells: b}
						if impl.SomeOk(g, a, need, s) && !taken || impl.TalksBy(a, need, b, ask) != nil && !impl.KeysOk(0, a, need) {
							t.Errorf("%v is taken for %d, %v, %d", s, g, a, need)
						}
						wantNoSecrets(t, g, a, need, s, s)
						if got, ok := impl.SomeOf(g, a, need, b, b, b, ask); !taken {
							wantNoSome(t, got, ok, g, a, need, b, ask)
						}
					}
				}
			}
		}
	}
}

func roomySome(s impl.Some) impl.Some {
	return impl.Some{Says: roomy(s.Says), Ask: s.Ask, Asks: roomy(s.Asks), Tells: roomy(s.Tells)}
}

// TestSomeIsNewMemory writes over all results, and then looks at the arguments, at the other results, and at the same results once more.
func TestSomeIsNewMemory(t *testing.T) {
	for _, m := range allMany() {
		m.allTold(3, 3, func(places []int, was knowledge, want impl.Some) {
			k := was
			k.keys, k.secrets, k.first, k.second = roomy(k.keys), roomy(k.secrets), roomy(k.first), roomy(k.second)
			said := mix(m.g, make([]int, m.many()), 1, m.logs)
			first := m.behindSays(said, 0, make([]int, m.many()))
			second := m.behindSays(said, 1, slices.Repeat([]int{1}, m.many()))
			a, b := roomySome(first), roomySome(second)
			for range 2 {
				got, _ := k.talk()
				from, _ := impl.SecretsFrom(m.g, k.keys, k.need, a, b)
				impl.KeysOk(m.g, k.keys, k.need)
				impl.LinesUp(m.g, k.need, k.ask, a.Asks)
				impl.SomeOk(m.g, k.keys, k.need, a)
				impl.SomeMany(m.g, k.keys, k.need, k.ask)
				results := [][]int{got.Says, got.Asks, got.Tells, from}
				rights := [][]int{want.Says, want.Asks, want.Tells, m.logs}
				if m.g == 0 {
					results = append(results, impl.TalksBy(k.keys, k.need, k.secrets, k.ask))
					rights = append(rights, numbersOf(slices.DeleteFunc(allRight(m, k.need), func(s impl.Some) bool { return s.Ask != k.ask })))
				}
				for i, result := range results {
					wantList(t, "the result after those before were written over, ", result, rights[i], m, places, i)
					spoil(result)
				}
				for i, list := range [][]int{k.keys, k.secrets, k.first, k.second, a.Says, a.Asks, a.Tells, b.Says, b.Asks, b.Tells} {
					old := [][]int{was.keys, was.secrets, was.first, was.second, first.Says, first.Asks, first.Tells, second.Says, second.Asks, second.Tells}
					wantKept(t, fmt.Sprint("an argument ", i), list, old[i])
				}
			}
		})
	}
}
