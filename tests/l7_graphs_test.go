package tests

import (
	"fmt"
	"math"
	"slices"
	"sync"
	"testing"

	"loop.example/sigmaproofs/impl"
)

// graphKnown is a graph told by which points are joined, so that no test rests on how the program keeps edges. Two of them are the same graph if they are ==.
type graphKnown struct {
	points int
	joined [5][5]bool
}

// joinedAt is the graph of some points in which the ends of each pair are joined.
func joinedAt(points int, ends ...[2]int) graphKnown {
	k := graphKnown{points: points}
	for _, end := range ends {
		k.joined[end[0]][end[1]], k.joined[end[1]][end[0]] = true, true
	}
	return k
}

func (k graphKnown) graph() impl.Graph {
	g := impl.Graph{Points: k.points}
	for a := range k.points {
		for b := a + 1; b < k.points; b++ {
			if k.joined[a][b] {
				g.Edges = append(g.Edges, 10*a+b)
			}
		}
	}
	return g
}

func (k graphKnown) moved(order []int) graphKnown {
	m := graphKnown{points: k.points}
	for a := range k.points {
		for b := range k.points {
			m.joined[order[a]][order[b]] = k.joined[a][b]
		}
	}
	return m
}

// graphsOf are all graphs of some points: the first one has no edges, and the last one all.
func graphsOf(points int) []graphKnown {
	list := []graphKnown{{points: points}}
	for b := range points {
		for a := range b {
			for _, k := range list {
				k.joined[a][b], k.joined[b][a] = true, true
				list = append(list, k)
			}
		}
	}
	return list
}

// smallGraphs are all graphs of at most 4 points.
func smallGraphs() []graphKnown {
	return slices.Concat(graphsOf(1), graphsOf(2), graphsOf(3), graphsOf(4))
}

func allGraphs() []graphKnown {
	return append(smallGraphs(), graphsOf(5)...)
}

// evenGraph is a graph, and how many orders lead it to itself, worked out by hand.
type evenGraph struct {
	graphKnown
	orders int
}

func evenGraphs() []evenGraph {
	return []evenGraph{
		{joinedAt(1), 1}, {joinedAt(2), 2}, {joinedAt(2, [2]int{0, 1}), 2}, {joinedAt(3), 6}, {joinedAt(3, [2]int{0, 2}), 2},
		{joinedAt(4), 24}, {joinedAt(4, [2]int{0, 3}), 4}, {joinedAt(4, [2]int{0, 1}, [2]int{2, 3}), 8},
		{joinedAt(4, [2]int{0, 1}, [2]int{1, 2}, [2]int{2, 3}), 2},
		{joinedAt(4, [2]int{3, 0}, [2]int{3, 1}, [2]int{3, 2}), 6},
		{joinedAt(4, [2]int{0, 1}, [2]int{1, 2}, [2]int{2, 0}), 6},
		{joinedAt(4, [2]int{0, 1}, [2]int{1, 2}, [2]int{2, 3}, [2]int{3, 0}), 8},
		{joinedAt(4, [2]int{0, 1}, [2]int{1, 2}, [2]int{2, 0}, [2]int{2, 3}), 2},
		{joinedAt(4, [2]int{0, 1}, [2]int{1, 2}, [2]int{2, 0}, [2]int{2, 3}, [2]int{3, 0}), 4},
		{joinedAt(5), 120}, {joinedAt(5, [2]int{0, 4}), 12}, {joinedAt(5, [2]int{0, 1}, [2]int{2, 3}), 8},
		{joinedAt(5, [2]int{0, 1}, [2]int{1, 2}, [2]int{2, 3}, [2]int{3, 4}), 2},
		{joinedAt(5, [2]int{0, 1}, [2]int{1, 2}, [2]int{2, 3}, [2]int{3, 4}, [2]int{4, 0}), 10},
		{joinedAt(5, [2]int{2, 0}, [2]int{2, 1}, [2]int{2, 3}, [2]int{2, 4}), 24},
		{joinedAt(5, [2]int{0, 1}, [2]int{1, 2}, [2]int{2, 0}, [2]int{3, 4}), 12},
		{joinedAt(5, [2]int{0, 2}, [2]int{0, 3}, [2]int{0, 4}, [2]int{1, 2}, [2]int{1, 3}, [2]int{1, 4}), 12},
		{joinedAt(5, [2]int{0, 1}, [2]int{0, 2}, [2]int{0, 3}, [2]int{1, 2}, [2]int{1, 3}, [2]int{2, 3}), 24},
		{joinedAt(5, [2]int{0, 1}, [2]int{1, 2}, [2]int{2, 0}, [2]int{1, 3}, [2]int{2, 4}), 2},
		{graphsOf(5)[1023], 120}, {graphsOf(5)[511], 12}, {graphsOf(4)[63], 24}, {graphsOf(3)[7], 6},
	}
}

// graphsTried are all graphs of at most 4 points, those of evenGraphs, and so many others of 5.
func graphsTried(five int) []graphKnown {
	list := append(smallGraphs(), some(graphsOf(5), five)...)
	for _, even := range evenGraphs() {
		list = append(list, even.graphKnown)
	}
	return list
}

// ordersKnown are all orders of each number of points, in the order of rows of numbers: the rows of numbers that have each number once.
var ordersKnown = allOrders()

func allOrders() [6][][]int {
	var list [6][][]int
	for points := 1; points <= 5; points++ {
		for _, row := range rowsOfNumbers([]int{0, 1, 2, 3, 4}[:points], points) {
			if orderKnown(row, points) {
				list[points] = append(list[points], row)
			}
		}
	}
	return list
}

func orderKnown(row []int, many int) bool {
	for n := range many {
		if !slices.Contains(row, n) {
			return false
		}
	}
	return many >= 1 && many <= 5 && len(row) == many
}

func thenKnown(a []int, b []int) []int {
	var both []int
	for _, n := range a {
		both = append(both, b[n])
	}
	return both
}

func backKnown(a []int) []int {
	var back []int
	for n := range a {
		back = append(back, slices.Index(a, n))
	}
	return back
}

// twoKnown are two graphs of as many points.
type twoKnown struct {
	first  graphKnown
	second graphKnown
}

func (p twoKnown) points() int { return p.first.points }

func (p twoKnown) graphs() (impl.Graph, impl.Graph) { return p.first.graph(), p.second.graph() }

// asked is the graph that is asked for by a question.
func (p twoKnown) asked(ask int) graphKnown { return []graphKnown{p.first, p.second}[ask] }

// between are the orders that lead the first graph to the second one.
func (p twoKnown) between() [][]int {
	var list [][]int
	for _, order := range ordersKnown[p.points()] {
		if p.first.moved(order) == p.second {
			list = append(list, order)
		}
	}
	return list
}

// right is the talk with a question and an order that is right for the graphs.
func (p twoKnown) right(ask int, tell []int) impl.Turn {
	return impl.Turn{Say: p.asked(ask).moved(tell).graph(), Ask: ask, Tell: tell}
}

// twosOf are all pairs of graphs of as many points.
func twosOf(graphs []graphKnown) []twoKnown {
	var list []twoKnown
	for _, first := range graphs {
		for _, second := range graphs {
			if first.points == second.points {
				list = append(list, twoKnown{first, second})
			}
		}
	}
	return list
}

// twosLed are graphs with themselves, and with what so many orders lead them to.
func twosLed(graphs []graphKnown, many int) []twoKnown {
	var list []twoKnown
	for _, first := range graphs {
		for _, order := range some(ordersKnown[first.points], many) {
			list = append(list, twoKnown{first, first.moved(order)})
		}
	}
	return list
}

// twosTried are pairs of graphs: for some of them there are orders between both, and for others there are none.
func twosTried(many int) []twoKnown {
	few := slices.Concat(graphsOf(1), graphsOf(2), graphsOf(3))
	return slices.Concat(twosOf(few), some(twosOf(graphsOf(4)), many), some(twosOf(graphsOf(5)[:200]), many), twosLed(some(graphsTried(50), many), 2))
}

// edgesWrong are numbers that are no edges of a graph of some points.
func edgesWrong(points int) []int {
	list := []int{100, 101, 102, 112, 123, 134, 201, 1001, 1<<32 + 1, 1<<32 + 12, 1<<32 + 34, -1<<32 + 1, 1<<31 + 1, 256 + 1, 256 + 12}
	list = append(list, numbersFarOff...)
	for n := -130; n < 100; n++ {
		if a, b := n/10, n%10; n < 0 || a >= b || b >= points {
			list = append(list, n)
		}
	}
	return list
}

// graphsWrong are graphs of too few and of too many points, and with edges that are none, out of order or there twice.
func graphsWrong() []impl.Graph {
	var list []impl.Graph
	for _, points := range append([]int{0, -1, -2, -5, 6, 7, 10, 1<<32 + 3, 1<<32 + 5}, numbersFarOff...) {
		for _, edges := range [][]int{nil, {}, {1}, {1, 12}, {5}, {45}} {
			list = append(list, impl.Graph{Points: points, Edges: edges})
		}
	}
	for points := 1; points <= 5; points++ {
		full := graphsOf(points)[len(graphsOf(points))-1].graph().Edges
		for n, wrong := range edgesWrong(points) {
			list = append(list, impl.Graph{Points: points, Edges: []int{wrong}})
			if len(full) > 0 {
				edges := slices.Clone(full)
				edges[n%len(full)] = wrong
				list = append(list, impl.Graph{Points: points, Edges: edges}, impl.Graph{Points: points, Edges: append(slices.Clone(full), wrong)}, impl.Graph{Points: points, Edges: append([]int{wrong}, full...)})
			}
		}
		for i := range full {
			list = append(list, impl.Graph{Points: points, Edges: slices.Insert(slices.Clone(full), i, full[i])}, impl.Graph{Points: points, Edges: append(slices.Clone(full), full[i])})
			for j := range i {
				edges := slices.Clone(full)
				edges[i], edges[j] = edges[j], edges[i]
				list = append(list, impl.Graph{Points: points, Edges: edges}, impl.Graph{Points: points, Edges: []int{full[i], full[j]}})
			}
		}
	}
	return list
}

// ordersWrong are rows that are no order of so many points.
func ordersWrong(points int) [][]int {
	list := [][]int{nil, {}, {-1}, {1, -1}, {0, 1, 2, 3, 4, 5}, {5, 4, 3, 2, 1, 0}, {0, 0, 0, 0, 0, 0}, slices.Repeat([]int{0}, 100)}
	for other := 1; other <= 5; other++ {
		if other != points {
			list = append(list, ordersKnown[other][0], ordersKnown[other][len(ordersKnown[other])-1])
		}
	}
	numbers := append([]int{-1, -points, 0, 1, points - 1, points, points + 1, 1 << 32, 1<<32 + 1, 256}, numbersFarOff...)
	for _, right := range some(ordersKnown[points], 5) {
		for i := range right {
			for _, n := range numbers {
				order := slices.Clone(right)
				order[i] = n
				if !orderKnown(order, points) {
					list = append(list, order)
				}
			}
		}
		list = append(list, right[:points-1], append(slices.Clone(right), points), append(slices.Clone(right), 0))
	}
	return list
}

var asksWrong = append([]int{-1, -2, 2, 3, 10, 1 << 32, 1<<32 + 1, 256, 257}, numbersFarOff...)

func sameGraphs(g impl.Graph, h impl.Graph) bool {
	return g.Points == h.Points && slices.Equal(g.Edges, h.Edges)
}

func sameTurns(a impl.Turn, b impl.Turn) bool {
	return sameGraphs(a.Say, b.Say) && a.Ask == b.Ask && slices.Equal(a.Tell, b.Tell)
}

func wantGraph(t *testing.T, what string, got impl.Graph, want impl.Graph, args ...any) {
	t.Helper()
	if !sameGraphs(got, want) {
		t.Errorf("%s%v = %v, want %v", what, args, got, want)
	}
}

func wantOrders(t *testing.T, g impl.Graph, h impl.Graph, want [][]int) {
	t.Helper()
	if got := impl.OrdersBetween(g, h); !sameRows(got, want) {
		t.Errorf("OrdersBetween(%v, %v) = %v, want %v", g, h, got, want)
	}
}

func wantTurn(t *testing.T, what string, got impl.Turn, ok bool, want impl.Turn, args ...any) {
	t.Helper()
	if !ok || !sameTurns(got, want) {
		t.Errorf("%s%v = %v, %t, want %v, true", what, args, got, ok, want)
	}
}

func wantNoTurn(t *testing.T, what string, got impl.Turn, ok bool, args ...any) {
	t.Helper()
	if ok || !sameTurns(got, impl.Turn{}) {
		t.Errorf("%s%v = %v, %t, want the zero value, false", what, args, got, ok)
	}
}

func wantTurnOk(t *testing.T, g impl.Graph, h impl.Graph, talk impl.Turn, want bool) {
	t.Helper()
	if got := impl.TurnOk(g, h, talk); got != want {
		t.Errorf("TurnOk(%v, %v, %v) = %t, want %t", g, h, talk, got, want)
	}
}

func wantNoFrom(t *testing.T, g impl.Graph, h impl.Graph, a impl.Turn, b impl.Turn) {
	t.Helper()
	if got, ok := impl.OrderFrom(g, h, a, b); got != nil || ok {
		t.Errorf("OrderFrom(%v, %v, %v, %v) = %v, %t, want nil, false", g, h, a, b, got, ok)
	}
}

func wantSaid(t *testing.T, g impl.Graph, h impl.Graph, says []impl.Graph, want [][]int) {
	t.Helper()
	if got := impl.TurnTable(g, h, says); !sameRows(got, want) {
		t.Errorf("TurnTable(%v, %v, %v) = %v, want %v", g, h, says, got, want)
	}
}

func TestGraphBounds(t *testing.T) {
	wantNumber(t, "MaxPoints", impl.MaxPoints, 5)
	wantNumber(t, "graphs", len(allGraphs()), 1+2+8+64+1024)
	wantNumber(t, "orders of 5 points", len(ordersKnown[5]), 120)
}

func TestP73GraphsCanLoseEdges(t *testing.T) {
	for _, k := range allGraphs() {
		g := k.graph()
		if !impl.GraphOk(g) {
			t.Errorf("GraphOk(%v) = false", g)
		}
		for range len(g.Edges) {
			g.Edges = g.Edges[1:]
			if !impl.GraphOk(g) {
				t.Errorf("GraphOk(%v) = false", g)
			}
		}
	}
}

func TestGraphOkAtTheEdges(t *testing.T) {
	for points := 1; points <= 5; points++ {
		for _, edges := range [][]int{nil, {}} {
			if g := (impl.Graph{Points: points, Edges: edges}); !impl.GraphOk(g) {
				t.Errorf("GraphOk(%v) = false", g)
			}
		}
	}
	for _, g := range []impl.Graph{{Points: 2, Edges: []int{1}}, {Points: 3, Edges: []int{2}}, {Points: 5, Edges: []int{4}}, {Points: 5, Edges: []int{34}}, {Points: 5, Edges: []int{1, 34}}, {Points: 5, Edges: []int{4, 12}}} {
		if !impl.GraphOk(g) {
			t.Errorf("GraphOk(%v) = false", g)
		}
	}
}

// TestGraphOkOfAnyEdges takes all numbers around those of edges, alone and two of them, and few of them three at a time.
func TestGraphOkOfAnyEdges(t *testing.T) {
	var numbers []int
	for n := -12; n < 60; n++ {
		numbers = append(numbers, n)
	}
	lists := slices.Concat(rowsOfNumbers(numbers, 0), rowsOfNumbers(numbers, 1), rowsOfNumbers(numbers, 2), rowsOfNumbers([]int{-1, 0, 1, 2, 3, 4, 10, 11, 12, 13, 23, 24, 34, 45}, 3))
	for points := -1; points <= 7; points++ {
		for _, edges := range lists {
			want := points >= 1 && points <= 5
			for i, edge := range edges {
				want = want && edge >= 0 && edge/10 < edge%10 && edge%10 < points && (i == 0 || edges[i-1] < edge)
			}
			if g := (impl.Graph{Points: points, Edges: edges}); impl.GraphOk(g) != want {
				t.Errorf("GraphOk(%v) = %t", g, !want)
			}
		}
	}
}

func TestP74OrdersHaveEveryNumber(t *testing.T) {
	for points := 1; points <= 5; points++ {
		for _, order := range ordersKnown[points] {
			if !impl.OrderOk(order, points) {
				t.Errorf("OrderOk(%v, %d) = false", order, points)
			}
			for i := range order {
				for j := range i {
					other := slices.Clone(order)
					other[i], other[j] = other[j], other[i]
					if !impl.OrderOk(other, points) {
						t.Errorf("OrderOk(%v, %d) = false", other, points)
					}
				}
			}
		}
	}
}

// TestOrderOkOfAnyNumbers takes all rows of numbers around those of orders, for all numbers of points around those of graphs.
func TestOrderOkOfAnyNumbers(t *testing.T) {
	rows := [][]int{{0, 1, 2, 3, 4, 5}, {5, 4, 3, 2, 1, 0}, {0, 1, 2, 3, 4, 4}}
	for many := 0; many <= 5; many++ {
		rows = append(rows, rowsOfNumbers([]int{-1, 0, 1, 2, 3, 4, 5}, many)...)
	}
	for _, row := range rows {
		for many := -1; many <= 7; many++ {
			if want := orderKnown(row, many); impl.OrderOk(row, many) != want {
				t.Errorf("OrderOk(%v, %d) = %t", row, many, !want)
			}
		}
		for _, many := range numbersFarOff {
			if impl.OrderOk(row, many) {
				t.Errorf("OrderOk(%v, %d) = true", row, many)
			}
		}
	}
	for points := 1; points <= 5; points++ {
		for _, wrong := range ordersWrong(points) {
			if impl.OrderOk(wrong, points) {
				t.Errorf("OrderOk(%v, %d) = true", wrong, points)
			}
		}
	}
}

func TestP75BothOrdersMakeOne(t *testing.T) {
	for points := 1; points <= 5; points++ {
		for _, a := range ordersKnown[points] {
			for _, b := range ordersKnown[points] {
				both := impl.OrderThen(a, b)
				wantList(t, "OrderThen", both, thenKnown(a, b), a, b)
				if !impl.OrderOk(both, points) {
					t.Errorf("OrderThen(%v, %v) = %v is no order", a, b, both)
				}
				wantList(t, "back by the first order, OrderThen", impl.OrderThen(impl.OrderBack(a), both), b, a, b)
			}
		}
	}
}

func TestP76BackTwiceIsTheOrder(t *testing.T) {
	for points := 1; points <= 5; points++ {
		for _, a := range ordersKnown[points] {
			back := impl.OrderBack(a)
			wantList(t, "OrderBack", back, backKnown(a), a)
			wantList(t, "OrderBack twice", impl.OrderBack(back), a, a)
			wantList(t, "and back, OrderThen", impl.OrderThen(a, back), ordersKnown[points][0], a)
			wantList(t, "back, and OrderThen", impl.OrderThen(back, a), ordersKnown[points][0], a)
		}
	}
}

func TestOrdersByHand(t *testing.T) {
	wantList(t, "OrderThen", impl.OrderThen([]int{1, 0, 2}, []int{2, 0, 1}), []int{0, 2, 1})
	wantList(t, "OrderThen the other way round", impl.OrderThen([]int{2, 0, 1}, []int{1, 0, 2}), []int{2, 1, 0})
	wantList(t, "OrderThen", impl.OrderThen([]int{3, 0, 4, 1, 2}, []int{1, 2, 3, 4, 0}), []int{4, 1, 0, 2, 3})
	wantList(t, "OrderThen one point", impl.OrderThen([]int{0}, []int{0}), []int{0})
	wantList(t, "OrderBack", impl.OrderBack([]int{2, 0, 1}), []int{1, 2, 0})
	wantList(t, "OrderBack", impl.OrderBack([]int{3, 0, 4, 1, 2}), []int{1, 3, 4, 0, 2})
	wantList(t, "OrderBack one point", impl.OrderBack([]int{0}), []int{0})
}

func TestOrdersThatAreNone(t *testing.T) {
	for points := 1; points <= 5; points++ {
		for _, wrong := range ordersWrong(points) {
			for _, right := range some(ordersKnown[points], 4) {
				for _, both := range [][]int{impl.OrderThen(wrong, right), impl.OrderThen(right, wrong)} {
					if both != nil {
						t.Errorf("OrderThen of %v and %v = %v, want nil", wrong, right, both)
					}
				}
			}
			if orderKnown(wrong, len(wrong)) {
				continue
			}
			if both, back := impl.OrderThen(wrong, wrong), impl.OrderBack(wrong); both != nil || back != nil {
				t.Errorf("OrderThen(%v, %v) = %v, and OrderBack = %v, want nil", wrong, wrong, both, back)
			}
		}
	}
}

func TestP31MovedTwiceIsMovedOnce(t *testing.T) {
	for _, k := range graphsTried(40) {
		g, orders := k.graph(), ordersKnown[k.points]
		for _, a := range orders {
			moved := impl.GraphMoved(g, a)
			for _, b := range some(orders, 24) {
				again := impl.GraphMoved(moved, b)
				wantGraph(t, "GraphMoved by both", impl.GraphMoved(g, impl.OrderThen(a, b)), again, g, a, b)
				wantGraph(t, "GraphMoved again", again, k.moved(a).moved(b).graph(), g, a, b)
				wantNumber(t, "edges", len(again.Edges), len(g.Edges))
			}
		}
	}
}

func TestGraphMovedOfAllGraphs(t *testing.T) {
	for _, k := range allGraphs() {
		g := k.graph()
		for i, order := range ordersKnown[k.points] {
			moved := impl.GraphMoved(g, order)
			wantGraph(t, "GraphMoved", moved, k.moved(order).graph(), g, order)
			if i == 0 {
				wantGraph(t, "GraphMoved by the order that leaves all points", moved, g, g)
			}
			if !impl.GraphOk(moved) || len(moved.Edges) != len(g.Edges) {
				t.Errorf("GraphMoved(%v, %v) = %v is no graph with as many edges", g, order, moved)
			}
		}
	}
}

func TestGraphMovedByHand(t *testing.T) {
	moved := func(points int, edges []int, order []int, want []int) {
		t.Helper()
		wantGraph(t, "GraphMoved", impl.GraphMoved(impl.Graph{Points: points, Edges: edges}, order), impl.Graph{Points: points, Edges: want}, points, edges, order)
	}
	moved(1, nil, []int{0}, nil)
	moved(2, []int{1}, []int{1, 0}, []int{1})
	moved(3, []int{1, 12}, []int{1, 0, 2}, []int{1, 2})
	moved(3, []int{1, 12}, []int{2, 0, 1}, []int{1, 2})
	moved(3, []int{1, 12}, []int{1, 2, 0}, []int{2, 12})
	moved(5, []int{4}, []int{4, 1, 2, 3, 0}, []int{4})
	moved(5, []int{4}, []int{3, 1, 2, 0, 4}, []int{34})
	moved(5, []int{1, 2, 3, 4}, []int{4, 3, 2, 1, 0}, []int{4, 14, 24, 34})
	moved(5, []int{1, 4, 12, 23, 34}, []int{1, 2, 3, 4, 0}, []int{1, 4, 12, 23, 34})
	moved(5, []int{1, 4, 12, 23, 34}, []int{0, 2, 4, 1, 3}, []int{2, 3, 13, 14, 24})
	moved(5, []int{}, []int{3, 1, 4, 0, 2}, nil)
}

// TestGraphMovedOfOthers moves what is no graph, and graphs by what is no order of theirs.
func TestGraphMovedOfOthers(t *testing.T) {
	for _, wrong := range graphsWrong() {
		for points := 1; points <= 5; points++ {
			wantGraph(t, "GraphMoved", impl.GraphMoved(wrong, ordersKnown[points][0]), impl.Graph{}, wrong, points)
		}
		wantGraph(t, "GraphMoved", impl.GraphMoved(wrong, nil), impl.Graph{}, wrong)
		wantGraph(t, "GraphMoved", impl.GraphMoved(wrong, []int{5, 4, 3, 2, 1, 0}), impl.Graph{}, wrong)
		if impl.GraphOk(wrong) {
			t.Errorf("GraphOk(%v) = true", wrong)
		}
	}
	for _, k := range graphsTried(20) {
		for _, wrong := range ordersWrong(k.points) {
			wantGraph(t, "GraphMoved", impl.GraphMoved(k.graph(), wrong), impl.Graph{}, k.graph(), wrong)
		}
	}
}

func TestP32OrdersBetweenTwoAreAsManyAsOfOne(t *testing.T) {
	fives := some(graphsOf(5), 30)
	for _, p := range slices.Concat(twosOf(smallGraphs()), twosOf(fives), twosLed(graphsTried(100), 4)) {
		g, h := p.graphs()
		want := p.between()
		wantOrders(t, g, h, want)
		many, back := len(impl.OrdersBetween(g, g)), len(impl.OrdersBetween(h, g))
		if many < 1 || len(want) != 0 && len(want) != many || len(want) != back {
			t.Errorf("%d orders lead %v to %v, %d lead back, and %d to itself", len(want), g, h, back, many)
		}
		for _, order := range impl.OrdersBetween(g, h) {
			wantGraph(t, "GraphMoved between two", impl.GraphMoved(g, order), h, g, order)
		}
	}
}

func TestOrdersBetweenOfEvenGraphs(t *testing.T) {
	for _, even := range evenGraphs() {
		g := even.graph()
		wantNumber(t, fmt.Sprint("orders that lead to itself ", g), len(impl.OrdersBetween(g, g)), even.orders)
		for _, order := range some(ordersKnown[even.points], 6) {
			wantNumber(t, fmt.Sprint("orders between ", g, " and itself, moved by ", order), len(impl.OrdersBetween(g, even.moved(order).graph())), even.orders)
		}
	}
	for points := 1; points <= 5; points++ {
		for _, edges := range [][]int{nil, {}} {
			none := impl.Graph{Points: points, Edges: edges}
			wantOrders(t, none, impl.Graph{Points: points}, ordersKnown[points])
		}
	}
	orders := impl.OrdersBetween(impl.Graph{Points: 5}, impl.Graph{Points: 5})
	if len(orders) != 120 {
		t.Fatalf("%d orders lead the graph of 5 points without edges to itself", len(orders))
	}
	wantRows(t, "the first orders", orders[:7], [][]int{{0, 1, 2, 3, 4}, {0, 1, 2, 4, 3}, {0, 1, 3, 2, 4}, {0, 1, 3, 4, 2}, {0, 1, 4, 2, 3}, {0, 1, 4, 3, 2}, {0, 2, 1, 3, 4}})
	wantRows(t, "the last orders", orders[118:], [][]int{{4, 3, 2, 0, 1}, {4, 3, 2, 1, 0}})
}

func TestOrdersBetweenByHand(t *testing.T) {
	line, other := impl.Graph{Points: 3, Edges: []int{1, 12}}, impl.Graph{Points: 3, Edges: []int{1, 2}}
	wantOrders(t, line, other, [][]int{{1, 0, 2}, {2, 0, 1}})
	wantOrders(t, other, line, [][]int{{1, 0, 2}, {1, 2, 0}})
	wantOrders(t, impl.Graph{Points: 1}, impl.Graph{Points: 1}, [][]int{{0}})
	wantOrders(t, impl.Graph{Points: 5, Edges: []int{4}}, impl.Graph{Points: 5, Edges: []int{34}}, [][]int{
		{3, 0, 1, 2, 4}, {3, 0, 2, 1, 4}, {3, 1, 0, 2, 4}, {3, 1, 2, 0, 4}, {3, 2, 0, 1, 4}, {3, 2, 1, 0, 4},
		{4, 0, 1, 2, 3}, {4, 0, 2, 1, 3}, {4, 1, 0, 2, 3}, {4, 1, 2, 0, 3}, {4, 2, 0, 1, 3}, {4, 2, 1, 0, 3},
	})
	// With as many edges, but no order between them.
	path, star, ring := impl.Graph{Points: 4, Edges: []int{1, 12, 23}}, impl.Graph{Points: 4, Edges: []int{1, 2, 3}}, impl.Graph{Points: 4, Edges: []int{1, 2, 12}}
	for _, two := range [][2]impl.Graph{{path, star}, {path, ring}, {star, ring}, {{Points: 5, Edges: []int{1, 12}}, {Points: 5, Edges: []int{1, 23}}}} {
		wantOrders(t, two[0], two[1], nil)
		wantOrders(t, two[1], two[0], nil)
	}
	wantOrders(t, line, impl.Graph{Points: 3, Edges: []int{1}}, nil)
	wantOrders(t, line, impl.Graph{Points: 3}, nil)
}

func TestOrdersBetweenOthers(t *testing.T) {
	nothing := func(g impl.Graph, h impl.Graph) {
		t.Helper()
		for _, two := range [][2]impl.Graph{{g, h}, {h, g}} {
			if got := impl.OrdersBetween(two[0], two[1]); got != nil {
				t.Errorf("OrdersBetween(%v, %v) = %v, want nil", two[0], two[1], got)
			}
		}
	}
	for _, wrong := range graphsWrong() {
		nothing(wrong, wrong)
		nothing(wrong, impl.Graph{Points: wrong.Points})
		nothing(wrong, impl.Graph{Points: 3, Edges: []int{1, 12}})
	}
	for _, k := range graphsTried(10) {
		for points := 1; points <= 5; points++ {
			if points != k.points {
				nothing(k.graph(), impl.Graph{Points: points})
				nothing(k.graph(), impl.Graph{Points: points, Edges: k.graph().Edges})
			}
		}
	}
}

// saysTried are graphs that may be said behind a question, and some that may not: a choice of all, of those with one edge more or less, and what is no graph or has another number of points.
func saysTried(right impl.Graph) []impl.Graph {
	list := []impl.Graph{right, {}, {Points: right.Points}, {Points: right.Points + 1, Edges: right.Edges}, {Points: right.Points - 1, Edges: right.Edges}, {Edges: right.Edges}}
	if many := len(right.Edges); many > 0 {
		turned := slices.Clone(right.Edges)
		slices.Reverse(turned)
		list = append(list, impl.Graph{Points: right.Points, Edges: right.Edges[1:]}, impl.Graph{Points: right.Points, Edges: right.Edges[:many-1]}, impl.Graph{Points: right.Points, Edges: turned}, impl.Graph{Points: right.Points, Edges: append(slices.Clone(right.Edges), right.Edges[many-1])})
	}
	for _, k := range some(graphsOf(right.Points), 8) {
		list = append(list, k.graph())
	}
	return list
}

func TestP33RightTalksOfOrdersCanBeMadeUp(t *testing.T) {
	for _, p := range twosTried(60) {
		g, h := p.graphs()
		for _, tell := range some(ordersKnown[p.points()], 24) {
			for ask := range 2 {
				right := p.right(ask, tell)
				made, ok := impl.TurnMade(g, h, ask, tell)
				wantTurn(t, "TurnMade", made, ok, right, g, h, ask, tell)
				for _, say := range saysTried(right.Say) {
					talk := impl.Turn{Say: say, Ask: ask, Tell: tell}
					wantTurnOk(t, g, h, talk, sameTurns(talk, made))
				}
				// The same order leads both graphs to what is said only if they are the same.
				wantTurnOk(t, g, h, impl.Turn{Say: right.Say, Ask: 1 - ask, Tell: tell}, p.first == p.second)
			}
		}
	}
}

// TestTurnOkOfAllTalks takes all talks on two graphs of at most 3 points.
func TestTurnOkOfAllTalks(t *testing.T) {
	few := slices.Concat(graphsOf(1), graphsOf(2), graphsOf(3))
	for _, p := range twosOf(few) {
		g, h := p.graphs()
		for _, said := range few {
			for points := 1; points <= 3; points++ {
				for _, tell := range ordersKnown[points] {
					for ask := range 2 {
						talk := impl.Turn{Say: said.graph(), Ask: ask, Tell: tell}
						want := points == p.points() && p.asked(ask).moved(tell) == said
						wantTurnOk(t, g, h, talk, want)
					}
				}
			}
		}
	}
}

func TestTurnOkOfOthers(t *testing.T) {
	for _, p := range twosLed(graphsTried(5), 1) {
		g, h := p.graphs()
		for ask := range 2 {
			right := p.right(ask, ordersKnown[p.points()][0])
			for _, wrong := range asksWrong {
				wantTurnOk(t, g, h, impl.Turn{Say: right.Say, Ask: wrong, Tell: right.Tell}, false)
			}
			for _, wrong := range ordersWrong(p.points()) {
				wantTurnOk(t, g, h, impl.Turn{Say: right.Say, Ask: ask, Tell: wrong}, false)
				wantTurnOk(t, g, h, impl.Turn{Ask: ask, Tell: wrong}, false)
			}
			for _, k := range evenGraphs() {
				if other := k.graph(); k.points != p.points() {
					wantTurnOk(t, g, other, right, false)
					wantTurnOk(t, other, h, right, false)
				}
			}
		}
		wantTurnOk(t, g, h, impl.Turn{}, false)
	}
	for _, wrong := range graphsWrong() {
		right := impl.Graph{Points: 3, Edges: []int{1, 12}}
		for ask := range 2 {
			for _, tell := range [][]int{{0, 1, 2}, {0}, {0, 1}, {0, 1, 2, 3}, {0, 1, 2, 3, 4}, {0, 1, 2, 3, 4, 5}, nil} {
				for _, say := range []impl.Graph{wrong, right, {}} {
					talk := impl.Turn{Say: say, Ask: ask, Tell: tell}
					wantTurnOk(t, wrong, wrong, talk, false)
					wantTurnOk(t, wrong, right, talk, false)
					wantTurnOk(t, right, wrong, talk, false)
				}
			}
			wantTurnOk(t, right, right, impl.Turn{Say: wrong, Ask: ask, Tell: []int{0, 1, 2}}, false)
		}
	}
}

func TestP34TrueTalksOfOrdersAreRight(t *testing.T) {
	for _, p := range slices.Concat(twosLed(smallGraphs(), 24), twosLed(graphsTried(15), 4)) {
		g, h := p.graphs()
		for _, known := range some(p.between(), 24) {
			for _, further := range some(ordersKnown[p.points()], 24) {
				first, ok := impl.TurnOf(g, h, known, further, 0)
				second, can := impl.TurnOf(g, h, known, further, 1)
				say := p.first.moved(further).graph()
				wantTurn(t, "TurnOf", first, ok, impl.Turn{Say: say, Ask: 0, Tell: further}, g, h, known, further, 0)
				wantTurn(t, "TurnOf", second, can, impl.Turn{Say: say, Ask: 1, Tell: thenKnown(backKnown(known), further)}, g, h, known, further, 1)
				wantTurnOk(t, g, h, first, true)
				wantTurnOk(t, g, h, second, true)
				wantGraph(t, "what the first graph is led to", p.first.moved(first.Tell).graph(), say, g, h, known, further)
				wantGraph(t, "what the second graph is led to", p.second.moved(second.Tell).graph(), say, g, h, known, further)
				wantGraph(t, "what is said behind the other question", second.Say, first.Say, g, h, known, further)
			}
		}
	}
}

func TestTurnOfByHand(t *testing.T) {
	line, other := impl.Graph{Points: 3, Edges: []int{1, 12}}, impl.Graph{Points: 3, Edges: []int{1, 2}}
	talk := func(known []int, further []int, ask int, say []int, tell []int) {
		t.Helper()
		got, ok := impl.TurnOf(line, other, known, further, ask)
		wantTurn(t, "TurnOf", got, ok, impl.Turn{Say: impl.Graph{Points: 3, Edges: say}, Ask: ask, Tell: tell}, known, further, ask)
	}
	talk([]int{1, 0, 2}, []int{2, 0, 1}, 0, []int{1, 2}, []int{2, 0, 1})
	talk([]int{1, 0, 2}, []int{2, 0, 1}, 1, []int{1, 2}, []int{0, 2, 1})
	talk([]int{2, 0, 1}, []int{2, 0, 1}, 1, []int{1, 2}, []int{0, 1, 2})
	talk([]int{2, 0, 1}, []int{0, 1, 2}, 0, []int{1, 12}, []int{0, 1, 2})
	talk([]int{2, 0, 1}, []int{0, 1, 2}, 1, []int{1, 12}, []int{1, 2, 0})
	talk([]int{1, 0, 2}, []int{0, 2, 1}, 1, []int{2, 12}, []int{2, 0, 1})
	one, ok := impl.TurnOf(impl.Graph{Points: 1}, impl.Graph{Points: 1}, []int{0}, []int{0}, 1)
	wantTurn(t, "TurnOf one point", one, ok, impl.Turn{Say: impl.Graph{Points: 1}, Ask: 1, Tell: []int{0}})
}

// TestTurnOfOthers takes known orders that do not lead the first graph to the second one, among them those that only lead back, and what is not valid.
func TestTurnOfOthers(t *testing.T) {
	for _, p := range twosTried(25) {
		g, h := p.graphs()
		between, orders := p.between(), ordersKnown[p.points()]
		for ask := range 2 {
			for _, known := range orders {
				if !slices.ContainsFunc(between, func(order []int) bool { return slices.Equal(order, known) }) {
					got, ok := impl.TurnOf(g, h, known, orders[len(orders)-1], ask)
					wantNoTurn(t, "TurnOf", got, ok, g, h, known, ask)
				}
			}
			for _, wrong := range ordersWrong(p.points()) {
				got, ok := impl.TurnOf(g, h, wrong, orders[0], ask)
				wantNoTurn(t, "TurnOf", got, ok, g, h, wrong, ask)
				for _, known := range some(between, 1) {
					got, ok := impl.TurnOf(g, h, known, wrong, ask)
					wantNoTurn(t, "TurnOf", got, ok, g, h, known, wrong, ask)
				}
			}
		}
		for _, ask := range asksWrong {
			for _, known := range some(between, 1) {
				got, ok := impl.TurnOf(g, h, known, orders[0], ask)
				wantNoTurn(t, "TurnOf", got, ok, g, h, known, ask)
			}
		}
	}
}

// TestTurnsOfOtherGraphs makes talks on what is no graph, and on graphs of different numbers of points.
func TestTurnsOfOtherGraphs(t *testing.T) {
	none := func(g impl.Graph, h impl.Graph) {
		t.Helper()
		for ask := range 2 {
			for _, order := range [][]int{nil, {0}, {0, 1}, {0, 1, 2}, {0, 1, 2, 3}, {0, 1, 2, 3, 4}, {0, 1, 2, 3, 4, 5}} {
				of, ok := impl.TurnOf(g, h, order, order, ask)
				wantNoTurn(t, "TurnOf", of, ok, g, h, order, ask)
				made, ok := impl.TurnMade(g, h, ask, order)
				wantNoTurn(t, "TurnMade", made, ok, g, h, ask, order)
			}
		}
	}
	for _, wrong := range graphsWrong() {
		right := impl.Graph{Points: 3, Edges: []int{1, 12}}
		none(wrong, wrong)
		none(wrong, right)
		none(right, wrong)
	}
	for _, k := range graphsTried(10) {
		for points := 1; points <= 5; points++ {
			if points != k.points {
				none(k.graph(), impl.Graph{Points: points})
				none(impl.Graph{Points: points}, k.graph())
			}
		}
	}
}

// wantOneFurther makes talks up, and counts for orders that lead the first graph to the second one which further orders make them true: one for each.
func (p twoKnown) wantOneFurther(t *testing.T, tells [][]int, between [][]int) {
	t.Helper()
	g, h := p.graphs()
	for _, tell := range tells {
		for ask := range 2 {
			made, ok := impl.TurnMade(g, h, ask, tell)
			wantTurn(t, "TurnMade", made, ok, p.right(ask, tell), g, h, ask, tell)
			wantTurnOk(t, g, h, made, true)
			for _, known := range between {
				many := 0
				for _, further := range ordersKnown[p.points()] {
					if talk, ok := impl.TurnOf(g, h, known, further, ask); ok && sameTurns(talk, made) {
						many++
					}
				}
				wantNumber(t, fmt.Sprint("further orders for ", made, " on ", g, h, known), many, 1)
			}
		}
	}
}

// TestP35TrueTalksOfOrdersTellNothing takes pairs without an order between them, too: there it is only to be right.
func TestP35TrueTalksOfOrdersTellNothing(t *testing.T) {
	few := slices.Concat(graphsOf(1), graphsOf(2), graphsOf(3))
	for _, p := range slices.Concat(twosOf(few), some(twosOf(graphsOf(4)), 200), twosLed(graphsOf(4), 2)) {
		p.wantOneFurther(t, ordersKnown[p.points()], p.between())
	}
	for _, p := range append(twosLed(graphsTried(15)[75:], 1), some(twosOf(graphsOf(5)[:200]), 50)...) {
		p.wantOneFurther(t, some(ordersKnown[p.points()], 20), some(p.between(), 5))
	}
}

func TestTurnMadeOfOthers(t *testing.T) {
	for _, p := range twosTried(15) {
		g, h := p.graphs()
		for ask := range 2 {
			for _, wrong := range ordersWrong(p.points()) {
				made, ok := impl.TurnMade(g, h, ask, wrong)
				wantNoTurn(t, "TurnMade", made, ok, g, h, ask, wrong)
			}
		}
		for _, ask := range asksWrong {
			made, ok := impl.TurnMade(g, h, ask, ordersKnown[p.points()][0])
			wantNoTurn(t, "TurnMade", made, ok, g, h, ask)
		}
	}
}

func TestP36BothAnswersTellAnOrder(t *testing.T) {
	told := 0
	for _, p := range twosTried(80) {
		g, h := p.graphs()
		for _, first := range some(ordersKnown[p.points()], 24) {
			for _, second := range some(ordersKnown[p.points()], 24) {
				a, b := p.right(0, first), p.right(1, second)
				wantNoFrom(t, g, h, b, a)
				wantNoFrom(t, g, h, a, a)
				wantNoFrom(t, g, h, b, b)
				if !sameGraphs(a.Say, b.Say) {
					wantNoFrom(t, g, h, a, b)
					continue
				}
				order, ok := impl.OrderFrom(g, h, a, b)
				wantList(t, "OrderFrom", order, thenKnown(first, backKnown(second)), g, h, a, b)
				if !ok || p.first.moved(order) != p.second {
					t.Errorf("OrderFrom(%v, %v, %v, %v) = %v, %t does not lead the one to the other", g, h, a, b, order, ok)
				}
				told++
			}
		}
	}
	if told < 1000 {
		t.Errorf("only %d orders were told", told)
	}
}

// TestOrderFromTrueTalks tells the order that was known, from both answers of who knows it.
func TestOrderFromTrueTalks(t *testing.T) {
	for _, p := range twosLed(graphsTried(25), 3) {
		g, h := p.graphs()
		for _, known := range p.between() {
			for _, further := range some(ordersKnown[p.points()], 5) {
				a, _ := impl.TurnOf(g, h, known, further, 0)
				b, _ := impl.TurnOf(g, h, known, further, 1)
				order, ok := impl.OrderFrom(g, h, a, b)
				if wantList(t, "OrderFrom", order, known, g, h, a, b); !ok {
					t.Errorf("OrderFrom(%v, %v, %v, %v) is false", g, h, a, b)
				}
				wantNoFrom(t, g, h, b, a)
			}
		}
	}
}

// TestOrderFromOthers spoils one of two talks that tell an order, or one of both graphs.
func TestOrderFromOthers(t *testing.T) {
	for _, p := range twosLed(graphsTried(3), 1) {
		g, h := p.graphs()
		known := p.between()[0]
		a, b := p.right(0, ordersKnown[p.points()][0]), p.right(1, backKnown(known))
		for _, wrong := range ordersWrong(p.points()) {
			wantNoFrom(t, g, h, impl.Turn{Say: a.Say, Ask: 0, Tell: wrong}, b)
			wantNoFrom(t, g, h, a, impl.Turn{Say: b.Say, Ask: 1, Tell: wrong})
		}
		for _, wrong := range asksWrong {
			wantNoFrom(t, g, h, impl.Turn{Say: a.Say, Ask: wrong, Tell: a.Tell}, b)
			wantNoFrom(t, g, h, a, impl.Turn{Say: b.Say, Ask: wrong, Tell: b.Tell})
		}
		for _, say := range saysTried(a.Say)[1:] {
			if !sameGraphs(say, a.Say) {
				wantNoFrom(t, g, h, impl.Turn{Say: say, Ask: 0, Tell: a.Tell}, b)
				wantNoFrom(t, g, h, a, impl.Turn{Say: say, Ask: 1, Tell: b.Tell})
				wantNoFrom(t, g, h, impl.Turn{Say: say, Ask: 0, Tell: a.Tell}, impl.Turn{Say: say, Ask: 1, Tell: b.Tell})
			}
		}
		for _, wrong := range some(graphsWrong(), 60) {
			wantNoFrom(t, wrong, h, a, b)
			wantNoFrom(t, g, wrong, a, b)
			wantNoFrom(t, wrong, wrong, impl.Turn{Say: wrong, Ask: 0, Tell: a.Tell}, impl.Turn{Say: wrong, Ask: 1, Tell: b.Tell})
		}
		wantNoFrom(t, g, h, impl.Turn{}, impl.Turn{})
		wantNoFrom(t, impl.Graph{}, impl.Graph{}, impl.Turn{}, impl.Turn{Ask: 1})
	}
}

// saidKnown is 1 where an order leads a graph to one that is said.
func (p twoKnown) saidKnown(says []graphKnown) [][]int {
	var table [][]int
	for _, say := range says {
		row := []int{0, 0}
		for ask := range 2 {
			if say.points == p.points() && len(twoKnown{p.asked(ask), say}.between()) > 0 {
				row[ask] = 1
			}
		}
		table = append(table, row)
	}
	return table
}

func graphsFrom(list []graphKnown) []impl.Graph {
	var graphs []impl.Graph
	for _, k := range list {
		graphs = append(graphs, k.graph())
	}
	return graphs
}

func TestP37WithoutAnOrderOneQuestionIsAnswered(t *testing.T) {
	others := graphsTried(20)
	for i, p := range twosTried(80) {
		g, h := p.graphs()
		orders := ordersKnown[p.points()]
		says := []graphKnown{p.first, p.second, p.first.moved(orders[len(orders)/2]), p.second.moved(orders[len(orders)-1])}
		for j := range 8 {
			says = append(says, others[(i*31+j*17)%len(others)])
		}
		for _, list := range [][]graphKnown{says, says[:1], says[1:2], says[4:5], says[1:6]} {
			table := impl.TurnTable(g, h, graphsFrom(list))
			wantSaid(t, g, h, graphsFrom(list), p.saidKnown(list))
			_, _, _, twice := impl.TwiceAt(table)
			if !impl.TableOk(table) || len(table) != len(list) || twice && len(p.between()) == 0 {
				t.Errorf("TurnTable(%v, %v, %v) = %v, but %d orders lead the one to the other", g, h, list, table, len(p.between()))
			}
			for _, row := range table {
				if len(p.between()) > 0 && row[0] != row[1] {
					t.Errorf("TurnTable(%v, %v, %v) = %v has a row of different entries, but an order leads the one to the other", g, h, list, table)
				}
			}
		}
	}
}

// TestTurnTableOfAllSaid takes all graphs of as many points that may be said, as many at once as there may be.
func TestTurnTableOfAllSaid(t *testing.T) {
	for points := 1; points <= 4; points++ {
		for _, p := range some(twosOf(graphsOf(points)), 60) {
			g, h := p.graphs()
			for says := range slices.Chunk(graphsOf(points), impl.MaxBegin) {
				wantSaid(t, g, h, graphsFrom(says), p.saidKnown(says))
			}
		}
	}
}

func TestTurnTableByHand(t *testing.T) {
	line, one, none := impl.Graph{Points: 3, Edges: []int{1, 12}}, impl.Graph{Points: 3, Edges: []int{2}}, impl.Graph{Points: 3}
	wantSaid(t, line, one, []impl.Graph{line, one, none}, [][]int{{1, 0}, {0, 1}, {0, 0}})
	wantSaid(t, one, line, []impl.Graph{line, one, none}, [][]int{{0, 1}, {1, 0}, {0, 0}})
	wantSaid(t, line, line, []impl.Graph{{Points: 3, Edges: []int{2, 12}}, one}, [][]int{{1, 1}, {0, 0}})
	wantSaid(t, none, none, []impl.Graph{none}, [][]int{{1, 1}})
	wantSaid(t, none, none, []impl.Graph{{Points: 1}, {Points: 2}, {Points: 3}, {Points: 4}, {Points: 5}}, [][]int{{0, 0}, {0, 0}, {1, 1}, {0, 0}, {0, 0}})
	wantSaid(t, line, one, []impl.Graph{{Points: 4, Edges: []int{1, 12}}, {Points: 2, Edges: []int{1}}, one}, [][]int{{0, 0}, {0, 0}, {0, 1}})
	wantSaid(t, impl.Graph{Points: 1}, impl.Graph{Points: 1}, slices.Repeat([]impl.Graph{{Points: 1}}, 12), slices.Repeat([][]int{{1, 1}}, 12))
	wantSaid(t, line, one, slices.Repeat([]impl.Graph{one}, 12), slices.Repeat([][]int{{0, 1}}, 12))
}

func TestTurnTableOfOthers(t *testing.T) {
	line := impl.Graph{Points: 3, Edges: []int{1, 12}}
	none := func(g impl.Graph, h impl.Graph, says []impl.Graph) {
		t.Helper()
		if got := impl.TurnTable(g, h, says); got != nil {
			t.Errorf("TurnTable(%v, %v, %v) = %v, want nil", g, h, says, got)
		}
	}
	none(line, line, nil)
	none(line, line, []impl.Graph{})
	for _, many := range []int{13, 14, 24, 1000} {
		none(line, line, slices.Repeat([]impl.Graph{line}, many))
	}
	for _, wrong := range graphsWrong() {
		none(wrong, line, []impl.Graph{line})
		none(line, wrong, []impl.Graph{line})
		none(wrong, wrong, []impl.Graph{line})
		none(wrong, wrong, []impl.Graph{wrong})
		none(line, line, []impl.Graph{wrong})
		none(line, line, []impl.Graph{wrong, line})
		none(line, line, append(slices.Repeat([]impl.Graph{line}, 11), wrong))
	}
	// There is no talk on two graphs of different numbers of points.
	for _, k := range graphsTried(10) {
		for points := 1; points <= 5; points++ {
			if points != k.points {
				none(k.graph(), impl.Graph{Points: points}, []impl.Graph{k.graph()})
				none(impl.Graph{Points: points}, k.graph(), []impl.Graph{k.graph(), {Points: points}})
			}
		}
	}
}

// TestGraphsOfOddArguments calls everything with graphs, orders and questions that do not belong together: what is refused is refused by all, and nothing panics.
func TestGraphsOfOddArguments(t *testing.T) {
	graphs := append(some(graphsWrong(), 12), impl.Graph{Points: 1}, impl.Graph{Points: 2, Edges: []int{1}}, impl.Graph{Points: 3, Edges: []int{2}}, impl.Graph{Points: 3, Edges: []int{12}}, impl.Graph{Points: 5, Edges: []int{4, 34}})
	orders := [][]int{nil, {0}, {1}, {1, 0}, {0, 0}, {1, 2, 0}, {2, 1, 0}, {3, 2, 1, 0}, {4, 3, 2, 1, 0}, {0, 1, 2, 3, 4, 5}, {math.MinInt, math.MaxInt}, {-1, 0, 1}}
	for _, g := range graphs {
		for _, h := range graphs {
			for _, rows := range rowsOfNumbers([]int{0, 1, 2, 3, 4, 5, 6, 7, 8, 9, 10, 11}, 2) {
				a, b := orders[rows[0]], orders[rows[1]]
				two := impl.GraphOk(g) && impl.GraphOk(h) && g.Points == h.Points
				isA, isB := two && orderKnown(a, g.Points), two && orderKnown(b, g.Points)
				leads := isA && sameGraphs(impl.GraphMoved(g, a), h)
				for _, ask := range []int{math.MinInt, -1, 0, 1, 2, math.MaxInt} {
					asked := ask == 0 || ask == 1
					of, can := impl.TurnOf(g, h, a, b, ask)
					made, ok := impl.TurnMade(g, h, ask, a)
					if can != (leads && isB && asked) || ok != (isA && asked) {
						t.Errorf("TurnOf(%v, %v, %v, %v, %d) = %v, %t, and TurnMade = %v, %t", g, h, a, b, ask, of, can, made, ok)
					}
					wantTurnOk(t, g, h, of, can)
					wantTurnOk(t, g, h, made, ok)
				}
				first, _ := impl.TurnMade(g, h, 0, a)
				second, _ := impl.TurnMade(g, h, 1, b)
				if order, ok := impl.OrderFrom(g, h, first, second); ok != (isA && isB && sameGraphs(first.Say, second.Say)) || !ok && order != nil {
					t.Errorf("OrderFrom(%v, %v, %v, %v) = %v, %t", g, h, first, second, order, ok)
				}
			}
		}
	}
}

func roomyGraph(g impl.Graph) impl.Graph {
	return impl.Graph{Points: g.Points, Edges: roomy(g.Edges)}
}

func roomyTurn(talk impl.Turn) impl.Turn {
	return impl.Turn{Say: roomyGraph(talk.Say), Ask: talk.Ask, Tell: roomy(talk.Tell)}
}

// TestGraphsAreNewMemory writes over all results, and then looks at the arguments, at the other results, and at the same results once more.
func TestGraphsAreNewMemory(t *testing.T) {
	for _, p := range twosLed(graphsTried(30), 3) {
		g, h := p.graphs()
		orders, between := ordersKnown[p.points()], p.between()
		known, further := between[len(between)/2], orders[len(orders)/3]
		first, second := p.right(0, further), p.right(1, thenKnown(backKnown(known), further))
		roomG, roomH, roomKnown, roomFurther := roomyGraph(g), roomyGraph(h), roomy(known), roomy(further)
		a, b := roomyTurn(first), roomyTurn(second)
		for range 2 {
			moved := impl.GraphMoved(roomG, roomFurther)
			both, back := impl.OrderThen(roomKnown, roomFurther), impl.OrderBack(roomKnown)
			ofFirst, _ := impl.TurnOf(roomG, roomH, roomKnown, roomFurther, 0)
			ofSecond, _ := impl.TurnOf(roomG, roomH, roomKnown, roomFurther, 1)
			madeFirst, _ := impl.TurnMade(roomG, roomH, 0, roomFurther)
			madeSecond, _ := impl.TurnMade(roomG, roomH, 1, b.Tell)
			from, _ := impl.OrderFrom(roomG, roomH, a, b)
			impl.TurnOk(roomG, roomH, a)
			impl.GraphOk(roomG)
			impl.OrderOk(roomKnown, p.points())
			results := [][]int{moved.Edges, both, back, ofFirst.Say.Edges, ofFirst.Tell, ofSecond.Say.Edges, ofSecond.Tell, madeFirst.Say.Edges, madeFirst.Tell, madeSecond.Say.Edges, madeSecond.Tell, from}
			rights := [][]int{first.Say.Edges, thenKnown(known, further), backKnown(known), first.Say.Edges, first.Tell, second.Say.Edges, second.Tell, first.Say.Edges, first.Tell, second.Say.Edges, second.Tell, known}
			for i, result := range results {
				wantList(t, "the result after those before were written over, ", result, rights[i], g, h, known, further, i)
				spoil(result)
			}
			wantKept(t, "the edges of the first graph", roomG.Edges, g.Edges)
			wantKept(t, "the edges of the second graph", roomH.Edges, h.Edges)
			wantKept(t, "known", roomKnown, known)
			wantKept(t, "further", roomFurther, further)
			wantKept(t, "what is said first", a.Say.Edges, first.Say.Edges)
			wantKept(t, "what is told first", a.Tell, first.Tell)
			wantKept(t, "what is said second", b.Say.Edges, second.Say.Edges)
			wantKept(t, "what is told second", b.Tell, second.Tell)
		}
	}
}

// TestRowsOfGraphsAreNewMemory does the same with orders between graphs, and with tables.
func TestRowsOfGraphsAreNewMemory(t *testing.T) {
	for _, p := range twosLed(graphsTried(20), 2) {
		g, h := p.graphs()
		roomG, roomH := roomyGraph(g), roomyGraph(h)
		says := []graphKnown{p.first, {points: p.points()}, p.second, p.first}
		var roomSays []impl.Graph
		for _, say := range says {
			roomSays = append(roomSays, roomyGraph(say.graph()))
		}
		for _, made := range []struct {
			rows func() [][]int
			want [][]int
		}{
			{func() [][]int { return impl.OrdersBetween(roomG, roomH) }, p.between()},
			{func() [][]int { return impl.TurnTable(roomG, roomH, roomSays) }, p.saidKnown(says)},
		} {
			for range 2 {
				got := made.rows()
				wantNumber(t, "rows", len(got), len(made.want))
				for i, row := range got {
					wantList(t, "the row after those before were written over, ", row, made.want[i], g, h, i)
					spoil(row)
				}
				clear(got[:cap(got)])
			}
		}
		wantKept(t, "the edges of the first graph", roomG.Edges, g.Edges)
		wantKept(t, "the edges of the second graph", roomH.Edges, h.Edges)
		for i, say := range roomSays {
			wantKept(t, "the edges of a graph that is said", say.Edges, says[i].graph().Edges)
			wantNumber(t, "points of a graph that is said", say.Points, p.points())
		}
	}
}

// TestOtherGraphsAreNotWritten calls everything with what is not valid, and looks whether it was put in order.
func TestOtherGraphsAreNotWritten(t *testing.T) {
	right := impl.Graph{Points: 3, Edges: []int{1, 12}}
	for _, wrong := range graphsWrong() {
		g, order := roomyGraph(wrong), roomy([]int{2, 0, 1})
		talk := impl.Turn{Say: g, Ask: 1, Tell: order}
		impl.GraphOk(g)
		impl.GraphMoved(g, order)
		impl.OrdersBetween(g, g)
		impl.OrdersBetween(right, g)
		impl.TurnOk(right, right, talk)
		impl.TurnOk(g, g, talk)
		impl.TurnOf(g, g, order, order, 1)
		impl.TurnMade(right, g, 1, order)
		impl.OrderFrom(right, right, talk, talk)
		impl.TurnTable(right, right, []impl.Graph{g})
		impl.TurnTable(g, g, []impl.Graph{right})
		wantKept(t, "the edges of what is no graph", g.Edges, wrong.Edges)
		wantKept(t, "an order", order, []int{2, 0, 1})
	}
	for points := 1; points <= 5; points++ {
		for _, wrong := range ordersWrong(points) {
			order := roomy(wrong)
			impl.OrderOk(order, points)
			impl.OrderThen(order, order)
			impl.OrderBack(order)
			impl.GraphMoved(impl.Graph{Points: points}, order)
			impl.TurnOf(impl.Graph{Points: points}, impl.Graph{Points: points}, order, order, 1)
			impl.TurnMade(impl.Graph{Points: points}, impl.Graph{Points: points}, 0, order)
			wantKept(t, "what is no order", order, wrong)
		}
	}
}

// TestGraphsAtOnce makes the same calls from some goroutines at a time: nothing is kept between calls that one could spoil for another.
func TestGraphsAtOnce(t *testing.T) {
	list := twosLed(graphsTried(20), 1)
	var callers sync.WaitGroup
	for i := range 8 {
		callers.Add(1)
		go func() {
			defer callers.Done()
			for n := range list {
				p := list[(n+i*7)%len(list)]
				g, h := p.graphs()
				wantOrders(t, g, h, p.between())
			}
		}()
	}
	callers.Wait()
}
