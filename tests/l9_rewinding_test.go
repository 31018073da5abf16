package tests

import (
	"fmt"
	"math"
	"slices"
	"sync"
	"testing"

	"loop.example/sigmaproofs/impl"
)

// askersOnce are tables of a group that ask each question once: ascending and descending ones among them, from each question on.
func askersOnce(k groupKnown) [][]int {
	var list [][]int
	for from := range k.order {
		for _, step := range []int{1, 2, k.order - 1} {
			var asker []int
			for place := range k.order {
				asker = append(asker, (from+step*place)%k.order)
			}
			list = append(list, asker)
		}
	}
	return list
}

// askersOf are all tables of the small groups; of the others those that ask the same always, those of askersOnce, those that ask another question behind one element alone, and mixed ones.
func askersOf(g int) [][]int {
	k := groupsKnown[g]
	if k.order <= 5 {
		return rowsOfNumbers(k.exponents(), k.order)
	}
	list := askersOnce(k)
	for ask := range k.order {
		same := slices.Repeat([]int{ask}, k.order)
		one := slices.Clone(same)
		one[(7*ask+3)%k.order] = k.order - 1 - ask
		var mixed []int
		for place := range k.order {
			mixed = append(mixed, (place*place*(ask+1)+place*place*place+ask)%k.order)
		}
		list = append(list, same, one, mixed)
	}
	return list
}

// askersWrong are lists that are no tables of a group: too short, too long, and with a number that is no question.
func askersWrong(k groupKnown) [][]int {
	zeros := slices.Repeat([]int{0}, k.order)
	list := [][]int{nil, {}, {0}, zeros[1:], append(slices.Clone(zeros), 0), slices.Repeat(zeros, 2), slices.Repeat([]int{0}, k.prime-1), slices.Repeat([]int{0}, k.prime)}
	for _, other := range groupsKnown {
		if other.order != k.order {
			list = append(list, slices.Repeat([]int{0}, other.order), slices.Repeat([]int{1}, other.order))
		}
	}
	for _, right := range append(some(askersOnce(k), 2), zeros) {
		list = append(list, right[1:], right[:k.order-1], append(slices.Clone(right), 0), append(slices.Clone(right), k.order-1), append(slices.Clone(right), -1))
		for place := range right {
			for _, n := range exponentsWrong(k) {
				asker := slices.Clone(right)
				asker[place] = n
				list = append(list, asker)
			}
		}
	}
	return list
}

// askedTalks are the talks that a table asks, element by element, of who knows an exponent; logs are the exponents of the elements.
func askedTalks(k groupKnown, logs map[int]int, secret int, asker []int) []impl.Talk {
	var list []impl.Talk
	for place, say := range k.elements {
		list = append(list, impl.Talk{Say: say, Ask: asker[place], Tell: (logs[say] + asker[place]*secret) % k.order})
	}
	return list
}

// graphAskers are the sixteen tables of graphs.
var graphAskers = rowsOfNumbers([]int{0, 1}, 4)

// graphAskersWrong are lists that are no tables of graphs.
func graphAskersWrong() [][]int {
	list := [][]int{nil, {}, {0}, {1}, {0, 1}, {1, 0, 1, 0, 1, 0}, slices.Repeat([]int{0}, 8), slices.Repeat([]int{1}, 100)}
	list = append(list, rowsOfNumbers([]int{0, 1}, 3)...)
	list = append(list, rowsOfNumbers([]int{0, 1}, 5)...)
	for _, right := range graphAskers {
		for place := range right {
			for _, n := range entriesWrong {
				asker := slices.Clone(right)
				asker[place] = n
				list = append(list, asker)
			}
		}
	}
	return list
}

// askedKnown is the question that a table of graphs asks.
func (k graphKnown) askedKnown(asker []int) int {
	edges := 0
	for a := range k.points {
		for b := range a {
			if k.joined[a][b] {
				edges++
			}
		}
	}
	odd := edges%2 == 1
	switch {
	case k.joined[0][1] && !odd:
		return asker[0]
	case k.joined[0][1]:
		return asker[1]
	case !odd:
		return asker[2]
	}
	return asker[3]
}

// keptTurns are the talks with which each order answers each question, if a table of graphs asks it behind what is said.
func (p twoKnown) keptTurns(asker []int) []impl.Turn {
	var list []impl.Turn
	for ask := range 2 {
		for _, tell := range ordersKnown[p.points()] {
			if p.asked(ask).moved(tell).askedKnown(asker) == ask {
				list = append(list, p.right(ask, tell))
			}
		}
	}
	return list
}

// heardTurns are the talks of who knows an order: for each question and each answer there is one further order with which it is told.
func (p twoKnown) heardTurns(known []int, asker []int) []impl.Turn {
	var list []impl.Turn
	for ask := range 2 {
		for _, tell := range ordersKnown[p.points()] {
			further := tell
			if ask == 1 {
				further = thenKnown(known, tell)
			}
			if said := p.first.moved(further); said.askedKnown(asker) == ask {
				list = append(list, impl.Turn{Say: said.graph(), Ask: ask, Tell: tell})
			}
		}
	}
	return list
}

func wantTalks(t *testing.T, what string, got []impl.Talk, want []impl.Talk, args ...any) {
	t.Helper()
	if !slices.Equal(got, want) {
		t.Errorf("%s%v = %v, want %v", what, args, got, want)
	}
}

func wantTurns(t *testing.T, what string, got []impl.Turn, want []impl.Turn, args ...any) {
	t.Helper()
	if !slices.EqualFunc(got, want, sameTurns) {
		t.Errorf("%s%v = %v, want %v", what, args, got, want)
	}
}

func wantAsker(t *testing.T, g int, asker []int, want bool) {
	t.Helper()
	if got := impl.AskerOk(g, asker); got != want {
		t.Errorf("AskerOk(%d, %v) = %t, want %t", g, asker, got, want)
	}
}

func wantAsked(t *testing.T, g int, asker []int, say int, want int) {
	t.Helper()
	if got := impl.AskedBy(g, asker, say); got != want {
		t.Errorf("AskedBy(%d, %v, %d) = %d, want %d", g, asker, say, got, want)
	}
}

func wantGraphAsked(t *testing.T, asker []int, say impl.Graph, want int) {
	t.Helper()
	if got := impl.GraphAsked(asker, say); got != want {
		t.Errorf("GraphAsked(%v, %v) = %d, want %d", asker, say, got, want)
	}
}

func wantKeptBy(t *testing.T, g int, key int, asker []int, want []impl.Talk, wantMade int) {
	t.Helper()
	kept, made := impl.KeptBy(g, key, asker)
	if wantTalks(t, "KeptBy", kept, want, g, key, asker); made != wantMade {
		t.Errorf("KeptBy(%d, %d, %v): %d are made up, want %d", g, key, asker, made, wantMade)
	}
}

func wantNotHeard(t *testing.T, g int, n int, asker []int) {
	t.Helper()
	if got := impl.HeardFrom(g, n, asker); got != nil {
		t.Errorf("HeardFrom(%d, %d, %v) = %v, want nil", g, n, asker, got)
	}
}

func wantNotKept(t *testing.T, g int, key int, asker []int) {
	t.Helper()
	if got, made := impl.KeptBy(g, key, asker); got != nil || made != -1 {
		t.Errorf("KeptBy(%d, %d, %v) = %v, %d, want nil, -1", g, key, asker, got, made)
	}
}

func wantNoTurnsHeard(t *testing.T, g impl.Graph, h impl.Graph, known []int, asker []int) {
	t.Helper()
	if got := impl.TurnsHeard(g, h, known, asker); got != nil {
		t.Errorf("TurnsHeard(%v, %v, %v, %v) = %v, want nil", g, h, known, asker, got)
	}
}

func wantNoTurnsKept(t *testing.T, g impl.Graph, h impl.Graph, asker []int) {
	t.Helper()
	if got, made := impl.TurnsKept(g, h, asker); got != nil || made != -1 {
		t.Errorf("TurnsKept(%v, %v, %v) = %v, %d, want nil, -1", g, h, asker, got, made)
	}
}

func TestP81AlwaysTheSameIsATable(t *testing.T) {
	for g := range impl.GroupsMany {
		for ask := range impl.GroupOrder(g) {
			wantAsker(t, g, slices.Repeat([]int{ask}, impl.GroupOrder(g)), true)
		}
		wantAsker(t, g, make([]int, len(impl.ElementsOf(g))), true)
	}
}

func TestAskerOk(t *testing.T) {
	for g, k := range groupsKnown {
		for _, asker := range append(askersOf(g), askersOnce(k)...) {
			wantAsker(t, g, asker, true)
		}
		for _, wrong := range askersWrong(k) {
			wantAsker(t, g, wrong, false)
		}
		// A table of one group is none of any other.
		for other := range groupsKnown {
			wantAsker(t, other, slices.Repeat([]int{1}, k.order), other == g)
		}
	}
	for _, g := range groupsWrong() {
		for _, asker := range [][]int{nil, {}, {0}, {0, 0, 0}, {2, 0, 1}, make([]int, 23)} {
			wantAsker(t, g, asker, false)
		}
	}
}

// TestAskerOkOfAnyNumbers takes all short lists of numbers around those of questions.
func TestAskerOkOfAnyNumbers(t *testing.T) {
	for many := range 6 {
		for _, row := range rowsOfNumbers([]int{-1, 0, 2, 3, 4, 5}, many) {
			for g, k := range groupsKnown {
				want := len(row) == k.order && slices.Min(row) >= 0 && slices.Max(row) < k.order
				wantAsker(t, g, row, want)
			}
		}
	}
}

func TestP82TablesAskWhatTheyHave(t *testing.T) {
	for g, k := range groupsKnown {
		for _, asker := range askersOf(g) {
			for place, say := range impl.ElementsOf(g) {
				wantAsked(t, g, asker, say, asker[place])
			}
			for place, say := range k.elements {
				wantAsked(t, g, asker, say, asker[place])
			}
		}
	}
}

func TestAskedByByHand(t *testing.T) {
	once := []int{2, 0, 1}
	wantAsked(t, 0, once, 1, 2)
	wantAsked(t, 0, once, 2, 0)
	wantAsked(t, 0, once, 4, 1)
	wantAsked(t, 0, once, 3, -1)
	// 1, 3, 4, 5 and 9 are the elements, and the base is 3.
	five := []int{4, 2, 0, 3, 1}
	wantAsked(t, 1, five, 1, 4)
	wantAsked(t, 1, five, 3, 2)
	wantAsked(t, 1, five, 9, 1)
	wantAsked(t, 1, five, 2, -1)
	wantAsked(t, 2, []int{10, 9, 8, 7, 6, 5, 4, 3, 2, 1, 0}, 18, 0)
	wantAsked(t, 2, []int{10, 9, 8, 7, 6, 5, 4, 3, 2, 1, 0}, 2, 9)
	wantAsked(t, 3, append(make([]int, 22), 22), 42, 22)
}

func TestAskedByOthers(t *testing.T) {
	for g, k := range groupsKnown {
		for _, wrong := range askersWrong(k) {
			for _, say := range []int{1, k.base, k.elements[k.order-1], 0, -1, k.prime} {
				wantAsked(t, g, wrong, say, -1)
			}
		}
		for _, asker := range append(some(askersOf(g), 5), askersWrong(k)[:10]...) {
			for _, say := range elementsWrong(k) {
				wantAsked(t, g, asker, say, -1)
			}
		}
	}
	for _, g := range groupsWrong() {
		for _, asker := range [][]int{nil, {}, {0}, {2, 0, 1}, make([]int, 23)} {
			for _, say := range []int{1, 2, 0, -1} {
				wantAsked(t, g, asker, say, -1)
			}
		}
	}
}

func TestP42WhoeverAsksLearnsNothing(t *testing.T) {
	for g, k := range groupsKnown {
		logs := logsKnown(k)
		for _, asker := range append(askersOf(g), askersOnce(k)...) {
			for secret := range k.order {
				heard := impl.HeardFrom(g, secret, asker)
				kept, _ := impl.KeptBy(g, impl.KeyOf(g, secret), asker)
				wantTalks(t, "HeardFrom", heard, kept, g, secret, asker)
				wantTalks(t, "HeardFrom", heard, askedTalks(k, logs, secret, asker), g, secret, asker)
			}
		}
	}
}

func TestP43OneOfSoManyIsKept(t *testing.T) {
	for g, k := range groupsKnown {
		logs := logsKnown(k)
		for _, asker := range append(askersOf(g), askersOnce(k)...) {
			for _, key := range k.elements {
				kept, made := impl.KeptBy(g, key, asker)
				if len(kept) != k.order || made != k.order*k.order {
					t.Errorf("KeptBy(%d, %d, %v): %d of %d are kept, want %d of %d", g, key, asker, len(kept), made, k.order, k.order*k.order)
				}
				for _, talk := range kept {
					if !impl.TalkOk(g, key, talk) || impl.AskedBy(g, asker, talk.Say) != talk.Ask {
						t.Errorf("KeptBy(%d, %d, %v) keeps %v, which is not right or not asked so", g, key, asker, talk)
					}
				}
				wantTalks(t, "KeptBy", kept, askedTalks(k, logs, logs[key], asker), g, key, asker)
			}
		}
	}
}

// TestAskedTheSameAlways holds the talks of tables that ask the same always against those for one question.
func TestAskedTheSameAlways(t *testing.T) {
	for g, k := range groupsKnown {
		for ask := range k.order {
			same := slices.Repeat([]int{ask}, k.order)
			for secret := range k.order {
				wantTalks(t, "HeardFrom", impl.HeardFrom(g, secret, same), impl.TalksTrue(g, secret, ask), g, secret, ask)
				wantKeptBy(t, g, powerKnown(k, k.base, secret), same, impl.TalksMade(g, powerKnown(k, k.base, secret), ask), k.order*k.order)
			}
		}
	}
}

func TestHeardAndKeptByHand(t *testing.T) {
	both := func(g int, secret int, key int, asker []int, want []impl.Talk, made int) {
		t.Helper()
		wantTalks(t, "HeardFrom", impl.HeardFrom(g, secret, asker), want, g, secret, asker)
		wantKeptBy(t, g, key, asker, want, made)
	}
	both(0, 1, 2, []int{2, 0, 1}, []impl.Talk{{Say: 1, Ask: 2, Tell: 2}, {Say: 2, Ask: 0, Tell: 1}, {Say: 4, Ask: 1, Tell: 0}}, 9)
	both(0, 2, 4, []int{2, 0, 1}, []impl.Talk{{Say: 1, Ask: 2, Tell: 1}, {Say: 2, Ask: 0, Tell: 1}, {Say: 4, Ask: 1, Tell: 1}}, 9)
	both(0, 1, 2, []int{0, 0, 0}, []impl.Talk{{Say: 1, Tell: 0}, {Say: 2, Tell: 1}, {Say: 4, Tell: 2}}, 9)
	both(0, 2, 4, []int{2, 2, 2}, []impl.Talk{{Say: 1, Ask: 2, Tell: 1}, {Say: 2, Ask: 2, Tell: 2}, {Say: 4, Ask: 2, Tell: 0}}, 9)
	// The secret 0, whose key is 1: the answer is the exponent of what is said, whatever is asked.
	both(1, 0, 1, []int{4, 3, 2, 1, 0}, []impl.Talk{{Say: 1, Ask: 4, Tell: 0}, {Say: 3, Ask: 3, Tell: 1}, {Say: 4, Ask: 2, Tell: 4}, {Say: 5, Ask: 1, Tell: 3}, {Say: 9, Ask: 0, Tell: 2}}, 25)
	// The secret 1, whose key is the base.
	both(1, 1, 3, []int{4, 3, 2, 1, 0}, []impl.Talk{{Say: 1, Ask: 4, Tell: 4}, {Say: 3, Ask: 3, Tell: 4}, {Say: 4, Ask: 2, Tell: 1}, {Say: 5, Ask: 1, Tell: 4}, {Say: 9, Ask: 0, Tell: 2}}, 25)
	both(1, 2, 9, []int{1, 1, 1, 1, 1}, []impl.Talk{{Say: 1, Ask: 1, Tell: 2}, {Say: 3, Ask: 1, Tell: 3}, {Say: 4, Ask: 1, Tell: 1}, {Say: 5, Ask: 1, Tell: 0}, {Say: 9, Ask: 1, Tell: 4}}, 25)
}

// TestAskersAtTheEdges takes tables with 0 for each element, and with the order less 1 for each, the secret 0 and the greatest one, whose keys are 1 and another element: each element is said once, in ascending order.
func TestAskersAtTheEdges(t *testing.T) {
	for g, k := range groupsKnown {
		for _, ask := range []int{0, k.order - 1} {
			same := slices.Repeat([]int{ask}, k.order)
			for _, secret := range []int{0, 1, k.order - 1} {
				heard := impl.HeardFrom(g, secret, same)
				wantNumber(t, "talks that are heard", len(heard), k.order, g, secret, ask)
				for place, talk := range heard {
					wantNumber(t, "Say", talk.Say, k.elements[place], g, secret, ask)
					wantNumber(t, "Ask", talk.Ask, ask, g, secret, ask)
				}
				wantKeptBy(t, g, powerKnown(k, k.base, secret), same, heard, k.order*k.order)
			}
			wantKeptBy(t, g, 1, same, impl.HeardFrom(g, 0, same), k.order*k.order)
			wantKeptBy(t, g, k.base, same, impl.HeardFrom(g, 1, same), k.order*k.order)
		}
	}
}

func TestHeardAndKeptByOthers(t *testing.T) {
	for g, k := range groupsKnown {
		for _, wrong := range askersWrong(k) {
			for _, n := range []int{0, 1, k.order - 1, k.order, -1} {
				wantNotHeard(t, g, n, wrong)
			}
			for _, key := range []int{1, k.base, k.elements[k.order-1], 0, -1} {
				wantNotKept(t, g, key, wrong)
			}
		}
		for _, asker := range append(some(askersOf(g), 5), askersWrong(k)[:10]...) {
			for _, n := range exponentsWrong(k) {
				wantNotHeard(t, g, n, asker)
			}
			for _, key := range elementsWrong(k) {
				wantNotKept(t, g, key, asker)
			}
		}
	}
	for _, g := range groupsWrong() {
		for _, asker := range [][]int{nil, {}, {0}, {2, 0, 1}, make([]int, 5), make([]int, 11), make([]int, 23)} {
			for _, n := range []int{0, 1, 2, -1} {
				wantNotHeard(t, g, n, asker)
				wantNotKept(t, g, n, asker)
			}
		}
	}
}

func TestP83FourQuestionsAreATable(t *testing.T) {
	for _, ask := range []int{0, 1} {
		if asker := slices.Repeat([]int{ask}, 4); !impl.GraphAsker(asker) {
			t.Errorf("GraphAsker(%v) = false", asker)
		}
	}
	wantNumber(t, "tables of graphs", len(graphAskers), 16)
	for _, asker := range graphAskers {
		if !impl.GraphAsker(asker) {
			t.Errorf("GraphAsker(%v) = false", asker)
		}
	}
	for _, wrong := range graphAskersWrong() {
		if impl.GraphAsker(wrong) {
			t.Errorf("GraphAsker(%v) = true", wrong)
		}
	}
}

func TestP84TablesOfGraphsAskWhatTheyHave(t *testing.T) {
	for _, k := range allGraphs() {
		g := k.graph()
		for _, asker := range graphAskers {
			wantGraphAsked(t, asker, g, k.askedKnown(asker))
			if got := impl.GraphAsked(asker, g); !slices.Contains(asker, got) {
				t.Errorf("GraphAsked(%v, %v) = %d, which is none of the four entries", asker, g, got)
			}
		}
	}
}

// TestGraphAskedByHand takes tables with one entry that is 1, and with one that is 0, so that they tell which entry it is.
func TestGraphAskedByHand(t *testing.T) {
	for _, of := range []struct {
		points int
		edges  []int
		place  int
	}{
		// With an edge from 0 to 1: an even number of edges, and an odd one.
		{3, []int{1, 2}, 0}, {3, []int{1, 12}, 0}, {4, []int{1, 23}, 0}, {5, []int{1, 34}, 0}, {4, []int{1, 2, 3, 12}, 0}, {4, []int{1, 2, 3, 12, 13, 23}, 0}, {5, []int{1, 2, 3, 4, 12, 13, 14, 23, 24, 34}, 0},
		{2, []int{1}, 1}, {5, []int{1}, 1}, {3, []int{1, 2, 12}, 1}, {4, []int{1, 12, 23}, 1}, {5, []int{1, 2, 3, 4, 12}, 1}, {5, []int{1, 4, 12, 23, 34}, 1},
		// Without it.
		{1, nil, 2}, {1, []int{}, 2}, {2, nil, 2}, {3, nil, 2}, {5, nil, 2}, {3, []int{2, 12}, 2}, {4, []int{3, 12}, 2}, {5, []int{12, 23}, 2}, {4, []int{2, 3, 12, 13}, 2},
		{3, []int{2}, 3}, {3, []int{12}, 3}, {4, []int{3}, 3}, {5, []int{34}, 3}, {5, []int{12, 13, 23}, 3}, {4, []int{2, 3, 12, 13, 23}, 3}, {5, []int{2, 3, 4, 12, 13, 14, 23, 24, 34}, 3},
	} {
		for ask := range 2 {
			asker := slices.Repeat([]int{1 - ask}, 4)
			asker[of.place] = ask
			wantGraphAsked(t, asker, impl.Graph{Points: of.points, Edges: of.edges}, ask)
		}
	}
}

func TestGraphAskedOthers(t *testing.T) {
	for _, wrong := range append(graphsWrong(), impl.Graph{}) {
		for _, asker := range append(graphAskers, nil, []int{0, 0, 0}) {
			wantGraphAsked(t, asker, wrong, -1)
		}
	}
	for _, wrong := range graphAskersWrong() {
		for _, k := range graphsTried(10) {
			wantGraphAsked(t, wrong, k.graph(), -1)
		}
		wantGraphAsked(t, wrong, impl.Graph{}, -1)
		wantGraphAsked(t, wrong, impl.Graph{Points: 3, Edges: []int{12, 1}}, -1)
	}
}

// TestP44WhoeverAsksForOrdersLearnsNothing takes all pairs of graphs of at most 4 points, all orders that lead the one to the other, and all tables.
func TestP44WhoeverAsksForOrdersLearnsNothing(t *testing.T) {
	orders := 0
	for _, p := range twosOf(smallGraphs()) {
		g, h := p.graphs()
		between := p.between()
		orders += len(between)
		for _, asker := range graphAskers {
			kept, _ := impl.TurnsKept(g, h, asker)
			for _, known := range between {
				wantTurns(t, "TurnsHeard", impl.TurnsHeard(g, h, known, asker), kept, g, h, known, asker)
			}
		}
	}
	// Each order leads each graph to just one other.
	wantNumber(t, "orders that are known", orders, 1*1+2*2+8*6+64*24)
	for _, p := range append(twosLed(graphsTried(10)[75:], 1), twosLed(some(graphsOf(5), 4), 1)...) {
		g, h := p.graphs()
		for _, asker := range some(graphAskers, 5) {
			kept, _ := impl.TurnsKept(g, h, asker)
			for _, known := range some(p.between(), 4) {
				heard := impl.TurnsHeard(g, h, known, asker)
				wantTurns(t, "TurnsHeard", heard, kept, g, h, known, asker)
				wantNumber(t, "talks that are heard", len(heard), len(ordersKnown[p.points()]))
			}
		}
	}
}

// TestTurnsHeard holds talks against those of each further order.
func TestTurnsHeard(t *testing.T) {
	for _, p := range append(twosLed(graphsOf(4), 2), twosLed(graphsTried(5), 1)...) {
		g, h := p.graphs()
		for _, known := range some(p.between(), 2) {
			for _, asker := range graphAskers {
				wantTurns(t, "TurnsHeard", impl.TurnsHeard(g, h, known, asker), p.heardTurns(known, asker), g, h, known, asker)
			}
		}
	}
}

// wantKeptTurns holds the talks that are kept, and how many are made up, against those of all orders; if an order leads the first graph to the second one, just half are kept.
func (p twoKnown) wantKeptTurns(t *testing.T, asker []int) {
	t.Helper()
	g, h := p.graphs()
	orders := len(ordersKnown[p.points()])
	kept, made := impl.TurnsKept(g, h, asker)
	wantTurns(t, "TurnsKept", kept, p.keptTurns(asker), g, h, asker)
	if made != 2*orders || len(p.between()) > 0 && 2*len(kept) != made {
		t.Errorf("TurnsKept(%v, %v, %v): %d of %d are kept, and %d orders lead the one to the other", g, h, asker, len(kept), made, len(p.between()))
	}
	for _, talk := range kept {
		wantTurnOk(t, g, h, talk, true)
		wantGraphAsked(t, asker, talk.Say, talk.Ask)
	}
}

// TestP45OneOfTwoIsKept takes all pairs of graphs of at most 4 points, those between which no order leads among them, and all tables.
func TestP45OneOfTwoIsKept(t *testing.T) {
	led := 0
	for _, p := range twosOf(smallGraphs()) {
		for _, asker := range graphAskers {
			p.wantKeptTurns(t, asker)
		}
		if len(p.between()) > 0 {
			led++
		}
	}
	// By how many graphs are the same but for the order of points: of 4 points 1, 6, 12, 3, 4, 4, 12, 12, 3, 6 and 1, of 3 points 1, 3, 3 and 1, and each alone of fewer.
	wantNumber(t, "pairs with an order between them", led, 556+20+2+1)
	for _, p := range slices.Concat(twosLed(graphsTried(5)[75:], 1), some(twosOf(graphsOf(5)[:200]), 10)) {
		for _, asker := range some(graphAskers, 5) {
			p.wantKeptTurns(t, asker)
		}
	}
}

// TestTurnsAskedTheSameAlways takes the tables that ask 0 always and 1 always: each order is told once, in the order of rows of numbers.
func TestTurnsAskedTheSameAlways(t *testing.T) {
	for _, p := range append(twosLed(smallGraphs(), 2), twosLed(graphsTried(5)[75:], 1)...) {
		g, h := p.graphs()
		orders := ordersKnown[p.points()]
		for ask := range 2 {
			var want []impl.Turn
			for _, tell := range orders {
				want = append(want, p.right(ask, tell))
			}
			same := slices.Repeat([]int{ask}, 4)
			kept, made := impl.TurnsKept(g, h, same)
			wantTurns(t, "TurnsKept", kept, want, g, h, ask)
			wantNumber(t, "talks that are made up", made, 2*len(orders))
			for _, known := range some(p.between(), 3) {
				wantTurns(t, "TurnsHeard", impl.TurnsHeard(g, h, known, same), want, g, h, known, ask)
			}
		}
	}
}

func TestTurnsByHand(t *testing.T) {
	both := func(g impl.Graph, h impl.Graph, known []int, asker []int, want []impl.Turn) {
		t.Helper()
		wantTurns(t, "TurnsHeard", impl.TurnsHeard(g, h, known, asker), want, g, h, known, asker)
		kept, made := impl.TurnsKept(g, h, asker)
		wantTurns(t, "TurnsKept", kept, want, g, h, asker)
		wantNumber(t, "talks that are made up", made, 2*len(want))
	}
	// In the first graph 1 is in the middle, in the second one 0; without an edge from 0 to 1 the point 2 is.
	middle0, middle1, middle2 := impl.Graph{Points: 3, Edges: []int{1, 2}}, impl.Graph{Points: 3, Edges: []int{1, 12}}, impl.Graph{Points: 3, Edges: []int{2, 12}}
	for _, known := range [][]int{{1, 0, 2}, {2, 0, 1}} {
		both(middle1, middle0, known, []int{0, 1, 1, 0}, []impl.Turn{
			{Say: middle1, Ask: 0, Tell: []int{0, 1, 2}}, {Say: middle0, Ask: 0, Tell: []int{1, 0, 2}}, {Say: middle0, Ask: 0, Tell: []int{2, 0, 1}}, {Say: middle1, Ask: 0, Tell: []int{2, 1, 0}},
			{Say: middle2, Ask: 1, Tell: []int{2, 0, 1}}, {Say: middle2, Ask: 1, Tell: []int{2, 1, 0}},
		})
		both(middle1, middle0, known, []int{1, 0, 0, 1}, []impl.Turn{
			{Say: middle2, Ask: 0, Tell: []int{0, 2, 1}}, {Say: middle2, Ask: 0, Tell: []int{1, 2, 0}},
			{Say: middle0, Ask: 1, Tell: []int{0, 1, 2}}, {Say: middle0, Ask: 1, Tell: []int{0, 2, 1}}, {Say: middle1, Ask: 1, Tell: []int{1, 0, 2}}, {Say: middle1, Ask: 1, Tell: []int{1, 2, 0}},
		})
	}
	one := impl.Graph{Points: 1}
	both(one, one, []int{0}, []int{0, 0, 1, 0}, []impl.Turn{{Say: one, Ask: 1, Tell: []int{0}}})
	both(one, one, []int{0}, []int{1, 1, 0, 1}, []impl.Turn{{Say: one, Ask: 0, Tell: []int{0}}})
	two := impl.Graph{Points: 2, Edges: []int{1}}
	for _, known := range [][]int{{0, 1}, {1, 0}} {
		both(two, two, known, []int{0, 1, 0, 0}, []impl.Turn{{Say: two, Ask: 1, Tell: []int{0, 1}}, {Say: two, Ask: 1, Tell: []int{1, 0}}})
		both(two, two, known, []int{1, 0, 1, 1}, []impl.Turn{{Say: two, Ask: 0, Tell: []int{0, 1}}, {Say: two, Ask: 0, Tell: []int{1, 0}}})
	}
}

// TestTurnsKeptWithoutAnOrder takes two graphs between which no order leads: the chapter asks only for as many points. All talks may be kept, or none, which is not the same as for what is not valid.
func TestTurnsKeptWithoutAnOrder(t *testing.T) {
	two, none := impl.Graph{Points: 2, Edges: []int{1}}, impl.Graph{Points: 2}
	kept := func(asker []int, want []impl.Turn) {
		t.Helper()
		got, made := impl.TurnsKept(two, none, asker)
		wantTurns(t, "TurnsKept", got, want, asker)
		wantNumber(t, "talks that are made up", made, 4)
	}
	first := []impl.Turn{{Say: two, Ask: 0, Tell: []int{0, 1}}, {Say: two, Ask: 0, Tell: []int{1, 0}}}
	second := []impl.Turn{{Say: none, Ask: 1, Tell: []int{0, 1}}, {Say: none, Ask: 1, Tell: []int{1, 0}}}
	kept([]int{0, 1, 0, 0}, nil)
	kept([]int{0, 0, 0, 0}, first)
	kept([]int{1, 1, 1, 1}, second)
	kept([]int{1, 0, 1, 1}, append(first, second...))
	// With as many edges, too: only the first graph is ever asked for, or only the second one.
	path, star := impl.Graph{Points: 4, Edges: []int{1, 12, 23}}, impl.Graph{Points: 4, Edges: []int{1, 2, 3}}
	for ask, asked := range []impl.Graph{path, star} {
		got, made := impl.TurnsKept(path, star, slices.Repeat([]int{ask}, 4))
		wantNumber(t, "talks that are made up", made, 48)
		wantNumber(t, "talks that are kept", len(got), 24)
		for i, talk := range got {
			wantTurn(t, "TurnsKept", talk, true, impl.Turn{Say: impl.GraphMoved(asked, ordersKnown[4][i]), Ask: ask, Tell: ordersKnown[4][i]}, ask, i)
		}
	}
}

// TestTurnsHeardByOtherOrders takes known orders that do not lead the first graph to the second one, among them those that only lead back, and what is no order.
func TestTurnsHeardByOtherOrders(t *testing.T) {
	few := slices.Concat(graphsOf(1), graphsOf(2), graphsOf(3))
	for _, p := range slices.Concat(twosOf(few), some(twosOf(graphsOf(4)), 100), twosLed(graphsTried(5), 2)) {
		g, h := p.graphs()
		between := p.between()
		for _, known := range some(ordersKnown[p.points()], 24) {
			if slices.ContainsFunc(between, func(order []int) bool { return slices.Equal(order, known) }) {
				continue
			}
			for _, asker := range some(graphAskers, 3) {
				wantNoTurnsHeard(t, g, h, known, asker)
			}
		}
	}
	for _, p := range append(twosLed(graphsTried(3), 1), some(twosOf(graphsOf(4)), 10)...) {
		g, h := p.graphs()
		for _, wrong := range ordersWrong(p.points()) {
			wantNoTurnsHeard(t, g, h, wrong, []int{0, 0, 0, 0})
			wantNoTurnsHeard(t, g, h, wrong, []int{1, 0, 0, 1})
		}
	}
}

func TestTurnsByOtherAskers(t *testing.T) {
	for _, p := range twosLed(some(graphsTried(3), 10), 1) {
		g, h := p.graphs()
		for _, wrong := range graphAskersWrong() {
			wantNoTurnsHeard(t, g, h, p.between()[0], wrong)
			wantNoTurnsHeard(t, g, h, nil, wrong)
			wantNoTurnsKept(t, g, h, wrong)
		}
	}
	path, star := impl.Graph{Points: 4, Edges: []int{1, 12, 23}}, impl.Graph{Points: 4, Edges: []int{1, 2, 3}}
	for _, wrong := range graphAskersWrong() {
		wantNoTurnsKept(t, path, star, wrong)
		wantNoTurnsKept(t, impl.Graph{}, impl.Graph{}, wrong)
	}
}

// TestAskedOfOtherGraphs takes what is no graph, and graphs of different numbers of points.
func TestAskedOfOtherGraphs(t *testing.T) {
	none := func(g impl.Graph, h impl.Graph) {
		t.Helper()
		for _, asker := range [][]int{{0, 0, 0, 0}, {1, 1, 1, 1}, {0, 1, 1, 0}, nil} {
			for _, two := range [][2]impl.Graph{{g, h}, {h, g}} {
				wantNoTurnsKept(t, two[0], two[1], asker)
				for _, known := range [][]int{nil, {}, {0}, {0, 1}, {0, 1, 2}, {0, 1, 2, 3}, {0, 1, 2, 3, 4}, {0, 1, 2, 3, 4, 5}} {
					wantNoTurnsHeard(t, two[0], two[1], known, asker)
				}
			}
		}
	}
	for _, wrong := range append(graphsWrong(), impl.Graph{}) {
		none(wrong, wrong)
		none(wrong, impl.Graph{Points: 3, Edges: []int{1, 12}})
		none(wrong, impl.Graph{})
	}
	for _, k := range graphsTried(10) {
		for points := 1; points <= 5; points++ {
			if points != k.points {
				none(k.graph(), impl.Graph{Points: points})
				none(k.graph(), impl.Graph{Points: points, Edges: k.graph().Edges})
			}
		}
	}
}

// TestAskersOfOddArguments calls everything with groups, tables, elements and exponents that do not belong together: what is refused is refused by all, and nothing panics.
func TestAskersOfOddArguments(t *testing.T) {
	askers := [][]int{nil, {}, {0}, {0, 0, 0}, {2, 1, 0}, {3, 0, 0}, {0, 0, -1}, {0, 1, 1, 0}, {0, 0, 0, 0, 4}, {4, 3, 2, 1, 5}, {math.MinInt, 0, math.MaxInt}, make([]int, 11), make([]int, 23), make([]int, 24)}
	numbers := []int{math.MinInt, math.MinInt + 1, -2, -1, 0, 1, 2, 3, 4, 5, 9, 22, 23, 24, 47, math.MaxInt}
	for _, g := range []int{math.MinInt, -1, 0, 1, 2, 3, 4, 5, math.MaxInt} {
		for _, asker := range askers {
			is := g >= 0 && g < 4 && len(asker) == groupsKnown[g].order && slices.Min(asker) >= 0 && slices.Max(asker) < groupsKnown[g].order
			wantAsker(t, g, asker, is)
			for _, n := range numbers {
				element, exponent := is && slices.Contains(groupsKnown[g].elements, n), is && n >= 0 && n < groupsKnown[g].order
				if asked := impl.AskedBy(g, asker, n); (asked != -1) != element || element && !slices.Contains(asker, asked) {
					t.Errorf("AskedBy(%d, %v, %d) = %d", g, asker, n, asked)
				}
				if heard := impl.HeardFrom(g, n, asker); (heard != nil) != exponent || exponent && len(heard) != len(asker) {
					t.Errorf("HeardFrom(%d, %d, %v) = %v", g, n, asker, heard)
				}
				if kept, made := impl.KeptBy(g, n, asker); (kept != nil) != element || element && made != len(asker)*len(asker) || !element && made != -1 {
					t.Errorf("KeptBy(%d, %d, %v) = %v, %d", g, n, asker, kept, made)
				}
			}
		}
	}
}

// TestGraphAskersOfOddArguments does the same with graphs, orders and tables of graphs.
func TestGraphAskersOfOddArguments(t *testing.T) {
	graphs := append(some(graphsWrong(), 12), impl.Graph{}, impl.Graph{Points: 1}, impl.Graph{Points: 2, Edges: []int{1}}, impl.Graph{Points: 2}, impl.Graph{Points: 3, Edges: []int{2}}, impl.Graph{Points: 3, Edges: []int{12}}, impl.Graph{Points: 4, Edges: []int{3, 13}}, impl.Graph{Points: 5, Edges: []int{4, 34}})
	orders := [][]int{nil, {0}, {1}, {1, 0}, {0, 0}, {1, 2, 0}, {2, 1, 0}, {3, 2, 1, 0}, {0, 1, 2, 3}, {4, 3, 2, 1, 0}, {0, 1, 2, 3, 4}, {0, 1, 2, 3, 4, 5}, {math.MinInt, math.MaxInt}, {-1, 0, 1}}
	askers := append([][]int{nil, {0, 0, 0}, {0, 1, 2, 0}, {0, 1, 1, 0, 1}, {math.MinInt, 0, 0, math.MaxInt}, {0, 0, 0, -1}}, some(graphAskers, 4)...)
	for _, asker := range askers {
		is := len(asker) == 4 && slices.Min(asker) >= 0 && slices.Max(asker) <= 1
		for _, g := range graphs {
			if asked := impl.GraphAsked(asker, g); (asked != -1) != (is && impl.GraphOk(g)) {
				t.Errorf("GraphAsked(%v, %v) = %d", asker, g, asked)
			}
			for _, h := range graphs {
				two := is && impl.GraphOk(g) && impl.GraphOk(h) && g.Points == h.Points
				if kept, made := impl.TurnsKept(g, h, asker); (made != -1) != two || !two && kept != nil {
					t.Errorf("TurnsKept(%v, %v, %v) = %v, %d", g, h, asker, kept, made)
				}
				for _, known := range orders {
					leads := two && orderKnown(known, g.Points) && sameGraphs(impl.GraphMoved(g, known), h)
					if heard := impl.TurnsHeard(g, h, known, asker); (heard != nil) != leads {
						t.Errorf("TurnsHeard(%v, %v, %v, %v) = %v", g, h, known, asker, heard)
					}
				}
			}
		}
	}
}

// TestAskedTalksAreNewMemory writes over all results, and then looks at the tables, and at the same results once more.
func TestAskedTalksAreNewMemory(t *testing.T) {
	for g, k := range groupsKnown {
		logs := logsKnown(k)
		for _, asker := range append(some(askersOf(g), 20), askersOnce(k)...) {
			for _, secret := range []int{0, 1, k.order - 1} {
				room, want, key := roomy(asker), askedTalks(k, logs, secret, asker), powerKnown(k, k.base, secret)
				for range 2 {
					heard := impl.HeardFrom(g, secret, room)
					kept, _ := impl.KeptBy(g, key, room)
					impl.AskerOk(g, room)
					impl.AskedBy(g, room, key)
					for _, list := range [][]impl.Talk{heard, kept} {
						wantTalks(t, "the talks after those before were written over, ", list, want, g, secret, asker)
						for i := range list[:cap(list)] {
							list[:cap(list)][i] = impl.Talk{Say: -7, Ask: -7, Tell: -7}
						}
					}
					wantKept(t, "a table", room, asker)
				}
			}
		}
	}
}

// wantAloneTurns holds each talk of a list against what it is to be, and then writes over it, and in the end over the list.
func wantAloneTurns(t *testing.T, what string, list []impl.Turn, want []impl.Turn) {
	t.Helper()
	wantNumber(t, fmt.Sprint("talks of ", what), len(list), len(want))
	for i, talk := range list {
		wantTurn(t, "the talk after those before were written over, ", talk, true, want[i], what, i)
		spoil(talk.Say.Edges)
		spoil(talk.Tell)
	}
	clear(list[:cap(list)])
}

// TestAskedTurnsAreNewMemory does the same with talks on graphs: none of them shares memory with another one either.
func TestAskedTurnsAreNewMemory(t *testing.T) {
	for _, p := range twosLed(graphsTried(5), 2) {
		g, h := p.graphs()
		known := p.between()[len(p.between())/2]
		for _, asker := range some(graphAskers, 3) {
			roomG, roomH, roomKnown, roomAsker := roomyGraph(g), roomyGraph(h), roomy(known), roomy(asker)
			want := p.keptTurns(asker)
			for range 2 {
				heard := impl.TurnsHeard(roomG, roomH, roomKnown, roomAsker)
				kept, _ := impl.TurnsKept(roomG, roomH, roomAsker)
				impl.GraphAsker(roomAsker)
				impl.GraphAsked(roomAsker, roomG)
				wantAloneTurns(t, "TurnsHeard", heard, want)
				wantAloneTurns(t, "TurnsKept", kept, want)
				wantKept(t, "the edges of the first graph", roomG.Edges, g.Edges)
				wantKept(t, "the edges of the second graph", roomH.Edges, h.Edges)
				wantKept(t, "known", roomKnown, known)
				wantKept(t, "a table", roomAsker, asker)
			}
		}
	}
}

// TestOtherAskersAreNotWritten calls everything with what is not valid, and looks whether it was put in order.
func TestOtherAskersAreNotWritten(t *testing.T) {
	for g, k := range groupsKnown {
		for _, wrong := range askersWrong(k) {
			asker := roomy(wrong)
			impl.AskerOk(g, asker)
			impl.AskedBy(g, asker, 1)
			impl.HeardFrom(g, 1, asker)
			impl.KeptBy(g, k.base, asker)
			wantKept(t, "what is no table", asker, wrong)
		}
	}
	call := func(g impl.Graph, known []int, asker []int) {
		t.Helper()
		roomG, roomKnown, roomAsker := roomyGraph(g), roomy(known), roomy(asker)
		impl.GraphAsker(roomAsker)
		impl.GraphAsked(roomAsker, roomG)
		impl.TurnsHeard(roomG, roomG, roomKnown, roomAsker)
		impl.TurnsKept(roomG, roomG, roomAsker)
		impl.TurnsKept(impl.Graph{Points: 3}, roomG, roomAsker)
		wantKept(t, "the edges of a graph", roomG.Edges, g.Edges)
		wantKept(t, "an order", roomKnown, known)
		wantKept(t, "a table of graphs", roomAsker, asker)
	}
	right := impl.Graph{Points: 3, Edges: []int{1, 12}}
	for _, wrong := range graphsWrong() {
		call(wrong, []int{2, 1, 0}, []int{1, 0, 0, 1})
	}
	for _, wrong := range ordersWrong(3) {
		call(right, wrong, []int{1, 0, 0, 1})
	}
	for _, wrong := range graphAskersWrong() {
		call(right, []int{2, 1, 0}, wrong)
	}
}

// TestAskersAtOnce makes the same calls from some goroutines at a time: nothing is kept between calls that one could spoil for another.
func TestAskersAtOnce(t *testing.T) {
	var callers sync.WaitGroup
	twos := twosLed(graphsOf(3), 2)
	k := groupsKnown[2]
	logs, askers := logsKnown(k), askersOf(2)
	for i := range 8 {
		callers.Add(1)
		go func() {
			defer callers.Done()
			for n := range 40 {
				asker, key := askers[(n+i*7)%len(askers)], k.elements[(n*3+i)%k.order]
				wantKeptBy(t, 2, key, asker, askedTalks(k, logs, logs[key], asker), 121)
				wantTalks(t, "HeardFrom", impl.HeardFrom(2, logs[key], asker), askedTalks(k, logs, logs[key], asker), key, asker)
				twos[(n+i*7)%len(twos)].wantKeptTurns(t, graphAskers[(n*5+i)%16])
			}
		}()
	}
	callers.Wait()
}
