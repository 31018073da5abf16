package tests

import (
	"fmt"
	"math"
	"slices"
	"testing"

	"loop.example/sigmaproofs/impl"
)

// relationKnown is a relation whose elements are told by their exponents by the base, so that what solves it is found by sums alone.
type relationKnown struct {
	g     int
	rows  [][]int
	makes []int
}

func (r relationKnown) order() int { return groupsKnown[r.g].order }

func (r relationKnown) unknown() int { return len(r.rows[0]) }

// elementsFrom are the elements with exponents by the base.
func elementsFrom(g int, exps []int) []int {
	k := groupsKnown[g]
	var list []int
	for _, n := range exps {
		list = append(list, powerKnown(k, k.base, n%k.order))
	}
	return list
}

func (r relationKnown) claim() impl.Claim {
	c := impl.Claim{Group: r.g, Makes: elementsFrom(r.g, r.makes)}
	for _, row := range r.rows {
		c.Rows = append(c.Rows, elementsFrom(r.g, row))
	}
	return c
}

// made are the exponents by the base of what the rows make.
func (r relationKnown) made(exps []int) []int {
	var list []int
	for _, row := range r.rows {
		sum := 0
		for i, n := range row {
			sum += n * exps[i]
		}
		list = append(list, sum%r.order())
	}
	return list
}

// lots are all lots of exponents, in the order of rows of numbers.
func (r relationKnown) lots() [][]int {
	var list [][]int
	for x := range r.order() {
		if r.unknown() == 1 {
			list = append(list, []int{x})
			continue
		}
		for y := range r.order() {
			list = append(list, []int{x, y})
		}
	}
	return list
}

func (r relationKnown) solutions() [][]int {
	var list [][]int
	for _, exps := range r.lots() {
		if slices.Equal(r.made(exps), r.makes) {
			list = append(list, exps)
		}
	}
	return list
}

// mix adds to each number of a list a number times that of another list, by the order of a group.
func mix(g int, list []int, times int, other []int) []int {
	order := groupsKnown[g].order
	var sums []int
	for i, n := range list {
		sums = append(sums, ((n+times*other[i])%order+order)%order)
	}
	return sums
}

// saysFor are the exponents by the base of what is said in the talk with a question and answers.
func (r relationKnown) saysFor(ask int, tells []int) []int {
	return mix(r.g, r.made(tells), -ask, r.makes)
}

// right is the one talk with a question and answers that is right.
func (r relationKnown) right(ask int, tells []int) impl.Words {
	return impl.Words{Says: elementsFrom(r.g, r.saysFor(ask, tells)), Ask: ask, Tells: slices.Clone(tells)}
}

// relationsEdge are relations of one group with no solution, with one, with as many as the order, and with as many as its square.
func relationsEdge(g int) []relationKnown {
	last := groupsKnown[g].order - 1
	return []relationKnown{
		{g, [][]int{{0}}, []int{0}},
		{g, [][]int{{0}}, []int{1}},
		{g, [][]int{{1}}, []int{0}},
		{g, [][]int{{1}}, []int{last}},
		{g, [][]int{{last}}, []int{1}},
		{g, [][]int{{0}, {0}, {0}}, []int{0, 0, 0}},
		{g, [][]int{{0}, {0}, {0}}, []int{0, 0, last}},
		{g, [][]int{{1}, {1}}, []int{2, 2}},
		{g, [][]int{{1}, {1}}, []int{2, 1}},
		{g, [][]int{{1}, {2}, {last}}, []int{2, 4, 2 * last}},
		{g, [][]int{{1}, {2}, {0}}, []int{1, 2, 1}},
		{g, [][]int{{0, 0}}, []int{0}},
		{g, [][]int{{0, 0}}, []int{2}},
		{g, [][]int{{1, 2}}, []int{0}},
		{g, [][]int{{1, 2}}, []int{2}},
		{g, [][]int{{0, 1}}, []int{1}},
		{g, [][]int{{last, 0}}, []int{1}},
		{g, [][]int{{1, 0}, {0, 1}}, []int{last, 1}},
		{g, [][]int{{1, 1}, {1, 2}}, []int{0, 0}},
		{g, [][]int{{1, 2}, {1, 2}}, []int{1, 1}},
		{g, [][]int{{1, 2}, {1, 2}}, []int{1, 0}},
		{g, [][]int{{1, 2}, {2, 4}}, []int{1, 2}},
		{g, [][]int{{0, 0}, {0, 0}, {0, 0}}, []int{0, 0, 0}},
		{g, [][]int{{0, 0}, {0, 0}, {0, 0}}, []int{0, 1, 0}},
		{g, [][]int{{1, 1}, {2, 2}, {0, 0}}, []int{1, 2, 0}},
		{g, [][]int{{1, 1}, {2, 2}, {0, 0}}, []int{1, 2, 1}},
		{g, [][]int{{1, 0}, {0, 1}, {1, 1}}, []int{1, 1, 2}},
		{g, [][]int{{1, 0}, {0, 1}, {1, 1}}, []int{1, 1, 0}},
	}
}

// relationsMixed are relations of each shape, with numbers that a short rule spreads over the exponents.
func relationsMixed(g int) []relationKnown {
	seed := g + 1
	next := func() int {
		seed = (seed*1103 + 377) % 99991
		return seed % groupsKnown[g].order
	}
	var list []relationKnown
	for rows := 1; rows <= impl.MaxRows; rows++ {
		for unknown := 1; unknown <= impl.MaxUnknown; unknown++ {
			for range 3 {
				r := relationKnown{g: g}
				for range rows {
					row := make([]int, unknown)
					for i := range row {
						row[i] = next()
					}
					r.rows = append(r.rows, row)
					r.makes = append(r.makes, next())
				}
				list = append(list, r)
				// The same rows once more, with something that they can make.
				exps := make([]int, unknown)
				for i := range exps {
					exps[i] = next()
				}
				list = append(list, relationKnown{g, r.rows, r.made(exps)})
			}
		}
	}
	return list
}

func relationsOf(g int) []relationKnown {
	list := append(relationsEdge(g), relationsMixed(g)...)
	for _, r := range list {
		for i := range r.makes {
			r.makes[i] %= r.order()
		}
		for _, row := range r.rows {
			for i := range row {
				row[i] %= r.order()
			}
		}
	}
	return list
}

func allRelations() []relationKnown {
	var list []relationKnown
	for g := range groupsKnown {
		list = append(list, relationsOf(g)...)
	}
	return list
}

// some spreads a choice of at most so many, and one more, over a list: the first and the last one are always in it.
func some[T any](list []T, many int) []T {
	if len(list) <= many {
		return list
	}
	var few []T
	for i := range many {
		few = append(few, list[i*len(list)/many])
	}
	return append(few, list[len(list)-1])
}

func wantList(t *testing.T, what string, got []int, want []int, args ...any) {
	t.Helper()
	if !slices.Equal(got, want) {
		t.Errorf("%s%v = %v, want %v", what, args, got, want)
	}
}

func sameWords(a impl.Words, b impl.Words) bool {
	return slices.Equal(a.Says, b.Says) && a.Ask == b.Ask && slices.Equal(a.Tells, b.Tells)
}

func wantWords(t *testing.T, what string, got impl.Words, ok bool, want impl.Words, args ...any) {
	t.Helper()
	if !ok || !sameWords(got, want) {
		t.Errorf("%s%v = %v, %t, want %v, true", what, args, got, ok, want)
	}
}

func wantNoWords(t *testing.T, what string, got impl.Words, ok bool, args ...any) {
	t.Helper()
	if ok || !sameWords(got, impl.Words{}) {
		t.Errorf("%s%v = %v, %t, want the zero value, false", what, args, got, ok)
	}
}

func wantNoExponents(t *testing.T, c impl.Claim, a impl.Words, b impl.Words) {
	t.Helper()
	for _, pair := range [][2]impl.Words{{a, b}, {b, a}} {
		if got, ok := impl.ExponentsFrom(c, pair[0], pair[1]); got != nil || ok {
			t.Errorf("ExponentsFrom(%v, %v, %v) = %v, %t, want nil, false", c, pair[0], pair[1], got, ok)
		}
	}
}

func TestRelationBounds(t *testing.T) {
	wantNumber(t, "MaxRows", impl.MaxRows, 3)
	wantNumber(t, "MaxUnknown", impl.MaxUnknown, 2)
}

func TestP63RelationsMayHaveOneRow(t *testing.T) {
	for _, r := range allRelations() {
		c := r.claim()
		first := impl.Claim{Group: c.Group, Rows: c.Rows[:1], Makes: c.Makes[:1]}
		if !impl.ClaimOk(c) || !impl.ClaimOk(first) {
			t.Errorf("ClaimOk is %t of %v, and %t of its first row alone", impl.ClaimOk(c), c, impl.ClaimOk(first))
		}
	}
}

// TestClaimOkOfAll tries all relations of the group 0 with numbers from 0 on and less than 6, in each shape that has at most four numbers.
func TestClaimOkOfAll(t *testing.T) {
	isElement := []bool{false, true, true, false, true, false}
	for _, shape := range [][2]int{{1, 1}, {1, 2}, {2, 1}} {
		rows, unknown := shape[0], shape[1]
		numbers := rows*unknown + rows
		count := 1
		for range numbers {
			count *= len(isElement)
		}
		for n := range count {
			c, want := impl.Claim{}, true
			next := func() int {
				a := n % len(isElement)
				n /= len(isElement)
				want = want && isElement[a]
				return a
			}
			for range rows {
				row := []int{}
				for range unknown {
					row = append(row, next())
				}
				c.Rows, c.Makes = append(c.Rows, row), append(c.Makes, next())
			}
			if got := impl.ClaimOk(c); got != want {
				t.Errorf("ClaimOk(%v) = %t, want %t", c, got, want)
			}
		}
	}
}

func oneClaim(r relationKnown, change func(c *impl.Claim)) impl.Claim {
	c := r.claim()
	change(&c)
	return c
}

// claimsWrong are claims that are relations but for one thing.
func claimsWrong(r relationKnown) []impl.Claim {
	k := groupsKnown[r.g]
	lastRow, lastPlace := len(r.rows)-1, r.unknown()-1
	list := []impl.Claim{
		oneClaim(r, func(c *impl.Claim) { c.Rows = nil }),
		oneClaim(r, func(c *impl.Claim) { c.Makes = nil }),
		oneClaim(r, func(c *impl.Claim) { c.Rows, c.Makes = nil, nil }),
		oneClaim(r, func(c *impl.Claim) { c.Rows, c.Makes = [][]int{}, []int{} }),
		oneClaim(r, func(c *impl.Claim) { c.Makes = c.Makes[1:] }),
		oneClaim(r, func(c *impl.Claim) { c.Makes = append(c.Makes, 1) }),
		oneClaim(r, func(c *impl.Claim) { c.Rows = append(c.Rows, slices.Clone(c.Rows[0])) }),
		oneClaim(r, func(c *impl.Claim) { c.Rows = c.Rows[1:] }),
		oneClaim(r, func(c *impl.Claim) { c.Rows[lastRow] = nil }),
		oneClaim(r, func(c *impl.Claim) { c.Rows[0] = []int{} }),
		oneClaim(r, func(c *impl.Claim) { c.Rows[lastRow] = append(c.Rows[lastRow], 1, 1) }),
		oneClaim(r, func(c *impl.Claim) { c.Rows[0] = append(c.Rows[0], 1, 1) }),
		oneClaim(r, func(c *impl.Claim) {
			for i := range c.Rows {
				c.Rows[i] = nil
			}
		}),
		oneClaim(r, func(c *impl.Claim) {
			for i := range c.Rows {
				for len(c.Rows[i]) <= impl.MaxUnknown {
					c.Rows[i] = append(c.Rows[i], 1)
				}
			}
		}),
		oneClaim(r, func(c *impl.Claim) {
			for len(c.Rows) <= impl.MaxRows {
				c.Rows, c.Makes = append(c.Rows, slices.Clone(c.Rows[0])), append(c.Makes, c.Makes[0])
			}
		}),
	}
	if len(r.rows) > 1 {
		list = append(list,
			oneClaim(r, func(c *impl.Claim) { c.Rows[lastRow] = c.Rows[lastRow][1:] }),
			oneClaim(r, func(c *impl.Claim) { c.Rows[0] = c.Rows[0][1:] }),
			oneClaim(r, func(c *impl.Claim) { c.Rows[0] = append(c.Rows[0], 1) }),
			oneClaim(r, func(c *impl.Claim) { c.Rows[lastRow] = append(c.Rows[lastRow], 1) }))
	}
	for _, a := range elementsWrong(k) {
		list = append(list,
			oneClaim(r, func(c *impl.Claim) { c.Rows[0][0] = a }),
			oneClaim(r, func(c *impl.Claim) { c.Rows[lastRow][lastPlace] = a }),
			oneClaim(r, func(c *impl.Claim) { c.Makes[0] = a }),
			oneClaim(r, func(c *impl.Claim) { c.Makes[lastRow] = a }))
	}
	for _, g := range groupsWrong() {
		list = append(list, oneClaim(r, func(c *impl.Claim) { c.Group = g }))
	}
	return list
}

// TestOfClaimsThatAreNoRelations asks each function for what it would return for the relation that each claim nearly is.
func TestOfClaimsThatAreNoRelations(t *testing.T) {
	for _, r := range allRelations() {
		exps := make([]int, r.unknown())
		words, other := r.right(0, exps), r.right(1, exps)
		for _, c := range append(claimsWrong(r), impl.Claim{}, impl.Claim{Rows: make([][]int, 1), Makes: []int{1}}) {
			wantBool(t, fmt.Sprint("ClaimOk ", c), impl.ClaimOk(c), false)
			for _, lot := range [][]int{exps, nil, {}, {0}, {0, 0}, {1, 1, 1}, {-1, math.MaxInt}} {
				wantList(t, "RowsMake", impl.RowsMake(c, lot), nil, c, lot)
				wantBool(t, fmt.Sprint("Solves ", c, lot), impl.Solves(c, lot), false)
				got, ok := impl.WordsOf(c, lot, lot, 0)
				wantNoWords(t, "WordsOf", got, ok, c, lot, lot, 0)
				got, ok = impl.WordsMade(c, 0, lot)
				wantNoWords(t, "WordsMade", got, ok, c, 0, lot)
				wantBool(t, fmt.Sprint("WordsOk ", c, lot), impl.WordsOk(c, impl.Words{Says: words.Says, Tells: lot}), false)
			}
			if got := impl.SolutionsOf(c); got != nil {
				t.Errorf("SolutionsOf(%v) = %v, want nil", c, got)
			}
			wantBool(t, fmt.Sprint("WordsOk ", c, words), impl.WordsOk(c, words), false)
			wantBool(t, fmt.Sprint("WordsOk ", c), impl.WordsOk(c, impl.Words{}), false)
			wantNoExponents(t, c, words, other)
			wantNoExponents(t, c, impl.Words{}, impl.Words{Ask: 1})
			for _, says := range [][]int{words.Says, nil, {}, {1}, {1, 1}, {1, 1, 1}, {1, 1, 1, 1}, {0}, {math.MinInt, 1}} {
				wantNumber(t, fmt.Sprint("AnswersMany ", c, says), impl.AnswersMany(c, says), -1)
			}
		}
	}
}

// lotsWrong are lots of numbers that are no lot of exponents for the unknown ones of a relation.
func lotsWrong(r relationKnown) [][]int {
	list := [][]int{nil, {}, make([]int, r.unknown()+1), make([]int, r.unknown()-1), make([]int, 1000)}
	for _, n := range exponentsWrong(groupsKnown[r.g]) {
		for place := range r.unknown() {
			lot := make([]int, r.unknown())
			lot[place] = n
			list = append(list, lot)
		}
	}
	return list
}

func TestOfLotsThatAreNoExponents(t *testing.T) {
	for _, r := range allRelations() {
		c := r.claim()
		zeros := make([]int, r.unknown())
		one := r
		one.makes = make([]int, len(r.rows))
		for _, lot := range lotsWrong(r) {
			wantList(t, "RowsMake", impl.RowsMake(c, lot), nil, c, lot)
			wantBool(t, fmt.Sprint("Solves ", c, lot), impl.Solves(c, lot), false)
			for ask := range 2 {
				got, ok := impl.WordsMade(c, ask, lot)
				wantNoWords(t, "WordsMade", got, ok, c, ask, lot)
				// Of the relation that makes 1 everywhere zeros are a solution, so the lot alone is wrong.
				got, ok = impl.WordsOf(one.claim(), lot, zeros, ask)
				wantNoWords(t, "WordsOf", got, ok, one.claim(), lot, zeros, ask)
				got, ok = impl.WordsOf(one.claim(), zeros, lot, ask)
				wantNoWords(t, "WordsOf", got, ok, one.claim(), zeros, lot, ask)
				words := r.right(ask, zeros)
				words.Tells = lot
				wantBool(t, fmt.Sprint("WordsOk ", c, words), impl.WordsOk(c, words), false)
				wantNoExponents(t, c, words, r.right(1-ask, zeros))
			}
		}
	}
}

func TestOfQuestionsThatAreNoExponents(t *testing.T) {
	for _, r := range allRelations() {
		c := r.claim()
		zeros := make([]int, r.unknown())
		one := r
		one.makes = make([]int, len(r.rows))
		for _, ask := range exponentsWrong(groupsKnown[r.g]) {
			got, ok := impl.WordsMade(c, ask, zeros)
			wantNoWords(t, "WordsMade", got, ok, c, ask, zeros)
			got, ok = impl.WordsOf(one.claim(), zeros, zeros, ask)
			wantNoWords(t, "WordsOf", got, ok, one.claim(), zeros, zeros, ask)
			// The question counted by the order would make it right.
			words := r.right(((ask%r.order())+r.order())%r.order(), zeros)
			words.Ask = ask
			wantBool(t, fmt.Sprint("WordsOk ", c, words), impl.WordsOk(c, words), false)
			wantNoExponents(t, c, words, r.right(0, zeros))
			wantNoExponents(t, c, words, r.right(1, zeros))
		}
	}
}

// saysWrong are lists that do not have an element for each row of a relation.
func saysWrong(r relationKnown, right []int) [][]int {
	list := [][]int{nil, {}, right[1:], append(slices.Clone(right), 1), append([]int{1}, right...), make([]int, 1000)}
	for _, a := range elementsWrong(groupsKnown[r.g]) {
		for place := range right {
			says := slices.Clone(right)
			says[place] = a
			list = append(list, says)
		}
	}
	return list
}

func TestOfSaysThatAreNoElements(t *testing.T) {
	for _, r := range allRelations() {
		c := r.claim()
		zeros := make([]int, r.unknown())
		right := r.right(1, zeros)
		for _, says := range saysWrong(r, right.Says) {
			wantNumber(t, fmt.Sprint("AnswersMany ", c, says), impl.AnswersMany(c, says), -1)
			words := impl.Words{Says: says, Ask: 1, Tells: zeros}
			wantBool(t, fmt.Sprint("WordsOk ", c, words), impl.WordsOk(c, words), false)
			wantNoExponents(t, c, words, impl.Words{Says: says, Tells: zeros})
			wantNoExponents(t, c, words, right)
		}
		wantBool(t, fmt.Sprint("WordsOk ", c), impl.WordsOk(c, impl.Words{}), false)
		wantNoExponents(t, c, impl.Words{}, impl.Words{Ask: 1})
	}
}

func TestP9SumsOfExponentsMakeProducts(t *testing.T) {
	for _, r := range allRelations() {
		c, k := r.claim(), groupsKnown[r.g]
		for _, a := range some(r.lots(), 40) {
			for _, b := range some(r.lots(), 9) {
				sum := impl.RowsMake(c, mix(r.g, a, 1, b))
				first, second := impl.RowsMake(c, a), impl.RowsMake(c, b)
				if len(sum) != len(c.Rows) || len(first) != len(c.Rows) || len(second) != len(c.Rows) {
					t.Fatalf("RowsMake(%v) of %v, of %v and of their sums = %v, %v, %v", c, a, b, first, second, sum)
				}
				for i := range sum {
					wantNumber(t, "RowsMake with the sums", sum[i], first[i]*second[i]%k.prime, r.g, i)
				}
			}
		}
	}
}

func TestRowsMake(t *testing.T) {
	for _, r := range allRelations() {
		c := r.claim()
		for _, exps := range some(r.lots(), 130) {
			wantList(t, "RowsMake", impl.RowsMake(c, exps), elementsFrom(r.g, r.made(exps)), c, exps)
		}
	}
}

func TestRowsMakeByHand(t *testing.T) {
	c := impl.Claim{Group: 2, Rows: [][]int{{2, 3}, {1, 13}, {18, 18}}, Makes: []int{1, 1, 1}}
	wantList(t, "RowsMake", impl.RowsMake(c, []int{0, 0}), []int{1, 1, 1}, c)
	wantList(t, "RowsMake", impl.RowsMake(c, []int{1, 0}), []int{2, 1, 18}, c)
	wantList(t, "RowsMake", impl.RowsMake(c, []int{0, 1}), []int{3, 13, 18}, c)
	wantList(t, "RowsMake", impl.RowsMake(c, []int{3, 2}), []int{3, 8, 3}, c)
	wantList(t, "RowsMake", impl.RowsMake(c, []int{10, 1}), []int{13, 13, 1}, c)
}

func TestP64SolutionsMakeIt(t *testing.T) {
	for _, r := range allRelations() {
		c := r.claim()
		for _, exps := range some(r.lots(), 130) {
			want := slices.Equal(impl.RowsMake(c, exps), c.Makes)
			wantBool(t, fmt.Sprint("Solves ", c, exps), impl.Solves(c, exps), want)
			wantBool(t, fmt.Sprint("Solves ", c, exps), impl.Solves(c, exps), slices.Equal(r.made(exps), r.makes))
		}
		for _, exps := range r.solutions() {
			wantBool(t, fmt.Sprint("Solves ", c, exps), impl.Solves(c, exps), true)
		}
	}
}

func TestP10SolutionsAreNoneOrAPower(t *testing.T) {
	for _, r := range allRelations() {
		c := r.claim()
		list := impl.SolutionsOf(c)
		switch len(list) {
		case 0, 1, r.order():
		case r.order() * r.order():
			wantNumber(t, "unknown", r.unknown(), 2)
		default:
			t.Errorf("SolutionsOf(%v) are %d", c, len(list))
		}
		ones := impl.Claim{Group: c.Group, Rows: c.Rows}
		for range c.Rows {
			ones.Makes = append(ones.Makes, 1)
		}
		for _, a := range list {
			wantBool(t, fmt.Sprint("Solves ", c, a), impl.Solves(c, a), true)
			for _, b := range some(list, 5) {
				difference := mix(r.g, a, -1, b)
				wantBool(t, fmt.Sprint("Solves ", ones, difference), impl.Solves(ones, difference), true)
			}
		}
	}
}

func TestSolutionsOf(t *testing.T) {
	for _, r := range allRelations() {
		got, want := impl.SolutionsOf(r.claim()), r.solutions()
		if !slices.EqualFunc(got, want, slices.Equal) {
			t.Errorf("SolutionsOf(%v) = %v, want %v", r.claim(), got, want)
		}
		if !slices.IsSortedFunc(got, slices.Compare) {
			t.Errorf("SolutionsOf(%v) = %v is not in order", r.claim(), got)
		}
	}
}

// TestSolutionsOfEdges counts the solutions that relationsEdge promises.
func TestSolutionsOfEdges(t *testing.T) {
	for g, k := range groupsKnown {
		n := k.order
		want := []int{n, 0, 1, 1, 1, n, 0, 1, 0, 1, 0, n * n, 0, n, n, n, n, 1, 1, n, 0, n, n * n, 0, n, 0, 1, 0}
		for i, r := range relationsOf(g)[:len(relationsEdge(g))] {
			wantNumber(t, fmt.Sprint("solutions of ", r.claim()), len(impl.SolutionsOf(r.claim())), want[i])
		}
	}
}

func TestSolutionsByHand(t *testing.T) {
	list := impl.SolutionsOf(impl.Claim{Group: 0, Rows: [][]int{{2, 4}}, Makes: []int{4}})
	if !slices.EqualFunc(list, [][]int{{0, 1}, {1, 2}, {2, 0}}, slices.Equal) {
		t.Errorf("SolutionsOf = %v", list)
	}
	list = impl.SolutionsOf(impl.Claim{Group: 0, Rows: [][]int{{1, 1}}, Makes: []int{1}})
	if !slices.EqualFunc(list, [][]int{{0, 0}, {0, 1}, {0, 2}, {1, 0}, {1, 1}, {1, 2}, {2, 0}, {2, 1}, {2, 2}}, slices.Equal) {
		t.Errorf("SolutionsOf = %v", list)
	}
	list = impl.SolutionsOf(impl.Claim{Group: 1, Rows: [][]int{{3}, {9}, {1}}, Makes: []int{5, 3, 1}})
	if !slices.EqualFunc(list, [][]int{{3}}, slices.Equal) {
		t.Errorf("SolutionsOf = %v", list)
	}
}

func TestP11TrueTalksAreRight(t *testing.T) {
	for _, r := range allRelations() {
		c := r.claim()
		for _, exps := range some(r.solutions(), 12) {
			for _, further := range some(r.lots(), 12) {
				for ask := range r.order() {
					got, ok := impl.WordsOf(c, exps, further, ask)
					if !ok || !impl.WordsOk(c, got) {
						t.Errorf("WordsOf(%v, %v, %v, %d) = %v, %t, which is not right", c, exps, further, ask, got, ok)
					}
					want := impl.Words{Says: elementsFrom(r.g, r.made(further)), Ask: ask, Tells: mix(r.g, further, ask, exps)}
					wantWords(t, "WordsOf", got, ok, want, c, exps, further, ask)
				}
			}
		}
	}
}

func TestWordsOfExponentsThatDoNotSolve(t *testing.T) {
	for _, r := range allRelations() {
		c := r.claim()
		for _, exps := range some(r.lots(), 60) {
			if slices.Equal(r.made(exps), r.makes) {
				continue
			}
			for _, ask := range []int{0, 1, r.order() - 1} {
				got, ok := impl.WordsOf(c, exps, exps, ask)
				wantNoWords(t, "WordsOf", got, ok, c, exps, exps, ask)
			}
		}
	}
}

// wordsTried are all talks of a relation of the group 0, and in other groups those around what is made up.
func wordsTried(r relationKnown) []impl.Words {
	var list []impl.Words
	for ask := range r.order() {
		for _, tells := range some(r.lots(), 9) {
			if r.g == 0 {
				for n := range 27 {
					says := elementsFrom(0, []int{n % 3, n / 3 % 3, n / 9})[:len(r.rows)]
					list = append(list, impl.Words{Says: says, Ask: ask, Tells: tells})
				}
				continue
			}
			right := r.right(ask, tells)
			list = append(list, right, impl.Words{Says: right.Says, Ask: (ask + 1) % r.order(), Tells: tells})
			for place := range right.Says {
				says, changed := slices.Clone(right.Says), slices.Clone(tells)
				says[place] = groupsKnown[r.g].elements[(ask+place)%r.order()]
				changed[place%r.unknown()] = (changed[place%r.unknown()] + 1) % r.order()
				list = append(list, impl.Words{Says: says, Ask: ask, Tells: tells}, impl.Words{Says: right.Says, Ask: ask, Tells: changed})
			}
		}
	}
	return list
}

func TestP12RightTalksCanBeMadeUp(t *testing.T) {
	for _, r := range allRelations() {
		c := r.claim()
		for _, w := range wordsTried(r) {
			made, ok := impl.WordsMade(c, w.Ask, w.Tells)
			if !ok {
				t.Fatalf("WordsMade(%v, %d, %v) = %v, false", c, w.Ask, w.Tells, made)
			}
			wantBool(t, fmt.Sprint("WordsOk ", c, w), impl.WordsOk(c, w), sameWords(w, made))
			wantBool(t, fmt.Sprint("WordsOk ", c, w), impl.WordsOk(c, w), sameWords(w, r.right(w.Ask, w.Tells)))
		}
	}
}

func TestP13MadeUpTalksAreTrueOnes(t *testing.T) {
	for _, r := range allRelations() {
		c := r.claim()
		solutions := some(r.solutions(), 6)
		for _, ask := range some(groupsKnown[r.g].exponents(), 6) {
			for _, tells := range some(r.lots(), 9) {
				made, ok := impl.WordsMade(c, ask, tells)
				wantWords(t, "WordsMade", made, ok, r.right(ask, tells), c, ask, tells)
				wantBool(t, fmt.Sprint("WordsOk ", c, made), impl.WordsOk(c, made), true)
				for _, exps := range solutions {
					further := mix(r.g, tells, -ask, exps)
					known, ok := impl.WordsOf(c, exps, further, ask)
					wantWords(t, "WordsOf", known, ok, made, c, exps, further, ask)
				}
			}
		}
	}
}

func (k groupKnown) exponents() []int {
	var list []int
	for n := range k.order {
		list = append(list, n)
	}
	return list
}

// TestP13JustOneLot tries all lots of further exponents in the two smallest groups.
func TestP13JustOneLot(t *testing.T) {
	for _, r := range append(relationsOf(0), relationsOf(1)...) {
		c := r.claim()
		for _, exps := range some(r.solutions(), 4) {
			for _, ask := range []int{0, 1, r.order() - 1} {
				for _, tells := range some(r.lots(), 4) {
					made, _ := impl.WordsMade(c, ask, tells)
					var found [][]int
					for _, further := range r.lots() {
						if known, ok := impl.WordsOf(c, exps, further, ask); ok && sameWords(known, made) {
							found = append(found, further)
						}
					}
					if len(found) != 1 || !slices.Equal(found[0], mix(r.g, tells, -ask, exps)) {
						t.Errorf("%v is the talk of %v, %v with %v", made, c, exps, found)
					}
				}
			}
		}
	}
}

// behind are answers that are right for a question behind what is said, told by its exponents by the base.
func (r relationKnown) behind(says []int, ask int) [][]int {
	var list [][]int
	for _, tells := range r.lots() {
		if slices.Equal(r.saysFor(ask, tells), says) {
			list = append(list, tells)
		}
	}
	return list
}

func TestP14TwoAnswersSolveIt(t *testing.T) {
	for _, r := range allRelations() {
		c := r.claim()
		for _, further := range some(r.lots(), 3) {
			says := r.made(further)
			for _, asks := range [][2]int{{0, 1}, {1, 0}, {2, 1}, {r.order() - 1, 0}, {1, r.order() - 1}, {r.order() - 2, r.order() - 1}} {
				if asks[0] == asks[1] {
					continue
				}
				for _, first := range some(r.behind(says, asks[0]), 4) {
					for _, second := range some(r.behind(says, asks[1]), 4) {
						a, b := r.right(asks[0], first), r.right(asks[1], second)
						got, ok := impl.ExponentsFrom(c, a, b)
						if !ok || !impl.Solves(c, got) {
							t.Errorf("ExponentsFrom(%v, %v, %v) = %v, %t, which do not solve it", c, a, b, got, ok)
							continue
						}
						// The exponents times the difference of the questions are the differences of the answers.
						wantList(t, "ExponentsFrom times", mix(r.g, make([]int, len(got)), asks[0]-asks[1], got), mix(r.g, first, -1, second), c, a, b)
					}
				}
			}
		}
	}
}

func TestP14FromTheProgramsOwnTalks(t *testing.T) {
	for _, r := range allRelations() {
		c := r.claim()
		for _, exps := range some(r.solutions(), 8) {
			for _, further := range some(r.lots(), 4) {
				first, _ := impl.WordsOf(c, exps, further, 1)
				for ask := range r.order() {
					other, _ := impl.WordsOf(c, exps, further, ask)
					if ask == 1 {
						wantNoExponents(t, c, first, other)
						continue
					}
					got, ok := impl.ExponentsFrom(c, first, other)
					if !ok {
						t.Errorf("ExponentsFrom(%v, %v, %v) = %v, false", c, first, other, got)
					}
					wantList(t, "ExponentsFrom", got, exps, c, first, other)
				}
			}
		}
	}
}

func TestExponentsFromTalksThatDoNotBelongTogether(t *testing.T) {
	for _, r := range allRelations() {
		c := r.claim()
		for _, exps := range some(r.solutions(), 3) {
			for _, further := range some(r.lots(), 3) {
				says := r.made(further)
				a := r.right(1, mix(r.g, further, 1, exps))
				// With one question twice, even where there are different answers to it.
				for _, tells := range some(r.behind(says, 1), 4) {
					wantNoExponents(t, c, a, r.right(1, tells))
				}
				// With another thing said, or not right.
				for _, tells := range some(r.lots(), 9) {
					b := r.right(2, tells)
					if slices.Equal(a.Says, b.Says) {
						continue
					}
					wantNoExponents(t, c, a, b)
					b.Says = a.Says
					wantNoExponents(t, c, a, b)
				}
			}
		}
	}
}

func TestP15WithoutASolutionOneQuestionAtMostIsAnswered(t *testing.T) {
	for _, r := range allRelations() {
		c := r.claim()
		var lists [][]int
		for _, further := range some(r.lots(), 4) {
			lists = append(lists, r.made(further), r.saysFor(1, further), r.saysFor(r.order()-1, further))
		}
		for n := range 3 {
			lists = append(lists, []int{n, 1, n * n % 3}[:len(r.rows)])
		}
		solved := len(impl.SolutionsOf(c)) > 0
		for _, says := range lists {
			got, want := impl.AnswersMany(c, elementsFrom(r.g, says)), 0
			for ask := range r.order() {
				if len(r.behind(says, ask)) > 0 {
					want++
				}
			}
			wantNumber(t, fmt.Sprint("AnswersMany ", c, elementsFrom(r.g, says)), got, want)
			if solved && got != 0 && got != r.order() || !solved && got != 0 && got != 1 {
				t.Errorf("AnswersMany(%v, %v) = %d, and solutions: %t", c, elementsFrom(r.g, says), got, solved)
			}
		}
	}
}

// TestAnswersManyOfTalks counts by WordsOk, for all that may be said, in the group 0.
func TestAnswersManyOfTalks(t *testing.T) {
	for _, r := range relationsOf(0) {
		c := r.claim()
		many := map[string]int{}
		for _, w := range wordsTried(r) {
			says := fmt.Sprint(w.Says)
			if _, ok := many[says]; !ok {
				many[says] = 0
				for ask := range r.order() {
					for _, tells := range r.lots() {
						if impl.WordsOk(c, impl.Words{Says: w.Says, Ask: ask, Tells: tells}) {
							many[says]++
							break
						}
					}
				}
			}
			wantNumber(t, fmt.Sprint("AnswersMany ", c, says), impl.AnswersMany(c, w.Says), many[says])
		}
	}
}

func TestAnswersManyOfRowsOfOnes(t *testing.T) {
	for g, k := range groupsKnown {
		all := impl.Claim{Group: g, Rows: [][]int{{1, 1}}, Makes: []int{1}}
		none := impl.Claim{Group: g, Rows: [][]int{{1, 1}}, Makes: []int{k.base}}
		for _, a := range k.elements {
			want := 0
			if a == 1 {
				want = k.order
			}
			wantNumber(t, "AnswersMany of 1 that makes 1", impl.AnswersMany(all, []int{a}), want, g, a)
			wantNumber(t, "AnswersMany of 1 that makes the base", impl.AnswersMany(none, []int{a}), 1, g, a)
		}
	}
}

// roomy is a copy of a list with room behind it, which holds numbers that show whether it was written to.
func roomy(list []int) []int {
	room := make([]int, len(list), len(list)+8)
	copy(room, list)
	for i := len(list); i < cap(room); i++ {
		room[:cap(room)][i] = -9
	}
	return room
}

// spoil writes over a list and all the room behind it.
func spoil(list []int) {
	list = list[:cap(list)]
	for i := range list {
		list[i] = -7
	}
}

// wantKept holds lists made by roomy against what they were.
func wantKept(t *testing.T, what string, list []int, was []int) {
	t.Helper()
	if !slices.Equal(list[:cap(list)], roomy(was)[:len(was)+8]) {
		t.Errorf("%s was written to: it is %v, and was %v", what, list[:cap(list)], was)
	}
}

func roomyClaim(c impl.Claim) impl.Claim {
	room := impl.Claim{Group: c.Group, Makes: roomy(c.Makes)}
	for _, row := range c.Rows {
		room.Rows = append(room.Rows, roomy(row))
	}
	return room
}

func roomyWords(w impl.Words) impl.Words {
	return impl.Words{Says: roomy(w.Says), Ask: w.Ask, Tells: roomy(w.Tells)}
}

// TestRelationsAreNewMemory writes over all results, and then looks at the arguments, at the other results, and at the same results once more.
func TestRelationsAreNewMemory(t *testing.T) {
	for _, r := range allRelations() {
		solutions := r.solutions()
		if len(solutions) == 0 {
			continue
		}
		exps, further := solutions[len(solutions)-1], r.lots()[1]
		known, first, second := r.right(1, mix(r.g, further, 1, exps)), r.right(0, further), r.right(2, mix(r.g, further, 2, exps))
		c, solving, more := roomyClaim(r.claim()), roomy(exps), roomy(further)
		a, b, tells := roomyWords(first), roomyWords(second), roomy(known.Tells)
		for range 2 {
			made := impl.RowsMake(c, more)
			list := impl.SolutionsOf(c)
			of, _ := impl.WordsOf(c, solving, more, 1)
			up, _ := impl.WordsMade(c, 1, tells)
			from, _ := impl.ExponentsFrom(c, a, b)
			impl.Solves(c, solving)
			impl.WordsOk(c, a)
			impl.AnswersMany(c, a.Says)
			results := [][]int{made, of.Says, of.Tells, up.Says, up.Tells, from}
			rights := [][]int{first.Says, known.Says, known.Tells, known.Says, known.Tells, exps}
			for i, result := range results {
				wantList(t, "the result after those before were written over, ", result, rights[i], c, i)
				spoil(result)
			}
			for i, row := range list {
				wantList(t, "SolutionsOf", row, solutions[i], c, i)
				spoil(row)
			}
			clear(list[:cap(list)])
			wantKept(t, "Makes", c.Makes, r.claim().Makes)
			for i, row := range c.Rows {
				wantKept(t, "a row", row, r.claim().Rows[i])
			}
			wantKept(t, "exps", solving, exps)
			wantKept(t, "further", more, further)
			wantKept(t, "tells", tells, known.Tells)
			wantKept(t, "Says", a.Says, first.Says)
			wantKept(t, "Tells", b.Tells, second.Tells)
		}
	}
}
