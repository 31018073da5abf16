package tests

import (
	"fmt"
	"math"
	"math/big"
	"slices"
	"sync"
	"testing"

	"loop.example/sigmaproofs/impl"
)

// coloursKnown are all colours of each number of points, in the order of rows of numbers.
var coloursKnown = allColours()

func allColours() [6][][]int {
	var list [6][][]int
	for points := 1; points <= 5; points++ {
		list[points] = rowsOfNumbers([]int{0, 1, 2}, points)
	}
	return list
}

// colourOrders are the six orders of the three colours.
var colourOrders = [][]int{{0, 1, 2}, {0, 2, 1}, {1, 0, 2}, {1, 2, 0}, {2, 0, 1}, {2, 1, 0}}

// fails are the edges whose ends have the same colour, as numbers.
func (k graphKnown) fails(colours []int) []int {
	var list []int
	for a := range k.points {
		for b := a + 1; b < k.points; b++ {
			if k.joined[a][b] && colours[a] == colours[b] {
				list = append(list, 10*a+b)
			}
		}
	}
	return list
}

// colours are all colours of a graph for which no edge fails.
func (k graphKnown) colours() [][]int {
	var list [][]int
	for _, colours := range coloursKnown[k.points] {
		if len(k.fails(colours)) == 0 {
			list = append(list, colours)
		}
	}
	return list
}

// best are the first colours for which the fewest edges fail, and how many do.
func (k graphKnown) best() ([]int, int) {
	best := coloursKnown[k.points][0]
	for _, colours := range coloursKnown[k.points] {
		if len(k.fails(colours)) < len(k.fails(best)) {
			best = colours
		}
	}
	return best, len(k.fails(best))
}

// notFound is how often who cheats as well as can be is not found out: of all edges those that do not fail, multiplied by themselves so many times.
func (k graphKnown) notFound(times int) *big.Rat {
	all := int64(len(k.graph().Edges))
	_, fails := k.best()
	chance := big.NewRat(1, 1)
	for range times {
		chance.Mul(chance, big.NewRat(all-int64(fails), all))
	}
	return chance
}

// paintedKnown are colours after each has become another one.
func paintedKnown(colours []int, order []int) []int {
	var list []int
	for _, colour := range colours {
		list = append(list, order[colour])
	}
	return list
}

// colouredGraph is a graph, and in how many ways it can be coloured, and how many edges fail at least, worked out by hand.
type colouredGraph struct {
	graphKnown
	ways  int
	fails int
}

func colouredGraphs() []colouredGraph {
	two := func(ends ...int) [][2]int {
		var list [][2]int
		for i := 0; i < len(ends); i += 2 {
			list = append(list, [2]int{ends[i], ends[i+1]})
		}
		return list
	}
	return []colouredGraph{
		{joinedAt(1), 3, 0}, {joinedAt(2), 9, 0}, {joinedAt(3), 27, 0}, {joinedAt(4), 81, 0}, {joinedAt(5), 243, 0},
		{joinedAt(2, two(0, 1)...), 6, 0}, {joinedAt(3, two(0, 2)...), 18, 0}, {joinedAt(4, two(1, 3)...), 54, 0}, {joinedAt(5, two(0, 4)...), 162, 0},
		{joinedAt(3, two(0, 1, 1, 2)...), 12, 0}, {joinedAt(4, two(0, 1, 2, 3)...), 36, 0},
		{joinedAt(4, two(0, 1, 1, 2, 2, 3)...), 24, 0}, {joinedAt(4, two(3, 0, 3, 1, 3, 2)...), 24, 0},
		{joinedAt(5, two(0, 1, 1, 2, 2, 3, 3, 4)...), 48, 0}, {joinedAt(5, two(2, 0, 2, 1, 2, 3, 2, 4)...), 48, 0},
		// Rings: of an even and of an odd number of points, and with points beside them.
		{joinedAt(4, two(0, 1, 1, 2, 2, 3, 3, 0)...), 18, 0}, {joinedAt(5, two(0, 1, 1, 2, 2, 3, 3, 4, 4, 0)...), 30, 0},
		{joinedAt(4, two(0, 1, 1, 2, 2, 0)...), 18, 0}, {joinedAt(4, two(0, 1, 1, 2, 2, 0, 2, 3)...), 12, 0},
		{joinedAt(5, two(0, 1, 1, 2, 2, 0, 3, 4)...), 36, 0}, {joinedAt(5, two(0, 1, 1, 2, 2, 0, 1, 3, 2, 4)...), 24, 0},
		{joinedAt(5, two(0, 2, 0, 3, 0, 4, 1, 2, 1, 3, 1, 4)...), 30, 0},
		// Just six ways: all points follow from the ends of one edge.
		{joinedAt(3, two(0, 1, 1, 2, 2, 0)...), 6, 0}, {joinedAt(4, two(0, 1, 1, 2, 2, 0, 2, 3, 3, 0)...), 6, 0},
		{joinedAt(5, two(4, 0, 4, 1, 4, 2, 4, 3, 0, 1, 1, 2, 2, 3)...), 6, 0},
		{joinedAt(5, two(4, 0, 4, 1, 4, 2, 4, 3, 0, 1, 1, 2, 2, 3, 3, 0)...), 6, 0},
		{joinedAt(5, two(0, 1, 0, 2, 1, 2, 0, 3, 1, 3, 0, 4, 1, 4)...), 6, 0},
		// None: four points are all joined.
		{graphsOf(4)[63], 0, 1}, {joinedAt(5, two(0, 1, 0, 2, 0, 3, 1, 2, 1, 3, 2, 3)...), 0, 1},
		{joinedAt(5, two(1, 2, 1, 3, 1, 4, 2, 3, 2, 4, 3, 4, 0, 4)...), 0, 1},
		{graphsOf(5)[511], 0, 1}, {graphsOf(5)[1023], 0, 2},
	}
}

// graphsColoured are all graphs of at most 4 points, those of colouredGraphs, and so many others of 5.
func graphsColoured(five int) []graphKnown {
	list := append(smallGraphs(), some(graphsOf(5), five)...)
	for _, coloured := range colouredGraphs() {
		list = append(list, coloured.graphKnown)
	}
	return list
}

// numbersNoColours are numbers that are no colours.
var numbersNoColours = append([]int{-1, -2, -3, 3, 4, 10, 256, 257, 258, 1 << 32, 1<<32 + 1, 1<<32 + 2, -1 << 32}, numbersFarOff...)

// coloursWrong are rows that are no colours of so many points: too few, too many, and with a number that is no colour.
func coloursWrong(points int) [][]int {
	list := [][]int{nil, {}, {0, 1, 2, 0, 1, 2}, {0, 0, 0, 0, 0, 0}, slices.Repeat([]int{1}, 100)}
	for other := 1; other <= 5; other++ {
		if other != points {
			list = append(list, some(coloursKnown[other], 3)...)
		}
	}
	for _, right := range some(coloursKnown[points], 3) {
		for i := range right {
			for _, n := range numbersNoColours {
				colours := slices.Clone(right)
				colours[i] = n
				list = append(list, colours)
			}
		}
		list = append(list, right[:points-1], append(slices.Clone(right), 0), append(slices.Clone(right), -1))
	}
	return list
}

// coloursAny are colours for what may be no graph: of each number of points around those of graphs, and what is none.
func coloursAny() [][]int {
	list := [][]int{nil, {}, {0, 1, 2, 0, 1, 2}, {0, 0, 0, 0, 0, 0}, {0, 1, 2, 0, 1, 2, 0}, {0, 1, -1}, {0, 1, 3}}
	for points := 1; points <= 5; points++ {
		list = append(list, some(coloursKnown[points], 3)...)
	}
	return list
}

func colourOrdersWrong() [][]int {
	list := append(ordersWrong(3), []int{0, 1}, []int{1, 0}, []int{0, 1, 2, 3}, []int{3, 2, 1, 0}, []int{0, 0, 1}, []int{2, 1, 2}, []int{1, 1, 1}, []int{1, 2, 3}, []int{0, 1, 2, 0})
	for _, row := range rowsOfNumbers([]int{-1, 0, 1, 2, 3}, 3) {
		if !orderKnown(row, 3) {
			list = append(list, row)
		}
	}
	return list
}

// edgesOther are numbers that are no edges of a graph: such of others, the greater point first, and what is none of any graph.
func (k graphKnown) edgesOther() []int {
	list := append(edgesWrong(k.points), -1, -12)
	for a := range 6 {
		for b := range 6 {
			if a >= k.points || b >= k.points || a >= b || !k.joined[a][b] {
				list = append(list, 10*a+b)
			}
		}
	}
	return list
}

func wantNoFails(t *testing.T, g impl.Graph, colours []int) {
	t.Helper()
	if fails, ok := impl.FailsOf(g, colours); ok || fails != nil {
		t.Errorf("FailsOf(%v, %v) = %v, %t, want nil, false", g, colours, fails, ok)
	}
	if impl.Coloured(g, colours) {
		t.Errorf("Coloured(%v, %v) = true", g, colours)
	}
}

func wantColours(t *testing.T, g impl.Graph, want [][]int) {
	t.Helper()
	if got := impl.ColoursOf(g); !sameRows(got, want) {
		t.Errorf("ColoursOf(%v) = %v, want %v", g, got, want)
	}
}

func wantNone(t *testing.T, what string, got []int, args ...any) {
	t.Helper()
	if got != nil {
		t.Errorf("%s%v = %v, want nil", what, args, got)
	}
}

func wantCheat(t *testing.T, g impl.Graph, colours []int, fails int) {
	t.Helper()
	if got, many := impl.BestCheat(g); !slices.Equal(got, colours) || many != fails {
		t.Errorf("BestCheat(%v) = %v, %d, want %v, %d", g, got, many, colours, fails)
	}
}

func TestP77FailingEdgesAreEdges(t *testing.T) {
	for _, k := range allGraphs() {
		g := k.graph()
		for i, colours := range coloursKnown[k.points] {
			fails, ok := impl.FailsOf(g, colours)
			if wantList(t, "FailsOf", fails, k.fails(colours), g, colours); !ok {
				t.Errorf("FailsOf(%v, %v) is false", g, colours)
			}
			for _, edge := range fails {
				if !slices.Contains(g.Edges, edge) {
					t.Errorf("FailsOf(%v, %v) = %v are not all edges", g, colours, fails)
				}
			}
			if i == 0 || i == len(coloursKnown[k.points])-1 {
				wantList(t, "with all colours the same, FailsOf", fails, g.Edges, g, colours)
			}
		}
		fails, ok := impl.FailsOf(g, slices.Repeat([]int{1}, k.points))
		if wantList(t, "with the colour 1 alone, FailsOf", fails, g.Edges, g); !ok {
			t.Errorf("FailsOf(%v) of the colour 1 alone is false", g)
		}
	}
}

func TestFailsOfByHand(t *testing.T) {
	fails := func(points int, edges []int, colours []int, want []int) {
		t.Helper()
		got, ok := impl.FailsOf(impl.Graph{Points: points, Edges: edges}, colours)
		if wantList(t, "FailsOf", got, want, points, edges, colours); !ok {
			t.Errorf("FailsOf of %d points, %v and %v is false", points, edges, colours)
		}
	}
	three, five := []int{1, 2, 12}, []int{1, 2, 3, 4, 12, 13, 14, 23, 24, 34}
	fails(3, three, []int{0, 1, 2}, nil)
	fails(3, three, []int{0, 1, 1}, []int{12})
	fails(3, three, []int{2, 1, 2}, []int{2})
	fails(3, three, []int{1, 1, 1}, three)
	fails(1, nil, []int{2}, nil)
	fails(1, []int{}, []int{0}, nil)
	fails(2, []int{1}, []int{2, 2}, []int{1})
	fails(2, nil, []int{2, 2}, nil)
	fails(5, nil, []int{0, 0, 0, 0, 0}, nil)
	fails(5, five, []int{0, 0, 1, 1, 2}, []int{1, 23})
	fails(5, five, []int{2, 0, 2, 1, 2}, []int{2, 4, 24})
	fails(5, five, []int{2, 2, 2, 2, 2}, five)
}

// TestColoursOfNoGraph calls all that takes colours with what is no graph.
func TestColoursOfNoGraph(t *testing.T) {
	for _, wrong := range graphsWrong() {
		for _, colours := range coloursAny() {
			wantNoFails(t, wrong, colours)
			for _, order := range [][]int{{0, 1, 2}, {2, 0, 1}, nil} {
				wantNone(t, "Painted", impl.Painted(wrong, colours, order), wrong, colours, order)
			}
			for _, edge := range append([]int{1, 12, 0, -1}, wrong.Edges...) {
				wantNone(t, "ViewsOf", impl.ViewsOf(wrong, colours, edge), wrong, colours, edge)
			}
		}
	}
}

// TestColoursThatAreNone calls all that takes colours with a graph and what are no colours of its points.
func TestColoursThatAreNone(t *testing.T) {
	for _, k := range graphsColoured(20) {
		g := k.graph()
		for _, wrong := range coloursWrong(k.points) {
			wantNoFails(t, g, wrong)
			for _, order := range colourOrders {
				wantNone(t, "Painted", impl.Painted(g, wrong, order), g, wrong, order)
			}
			for _, edge := range append([]int{1, 12}, g.Edges...) {
				wantNone(t, "ViewsOf", impl.ViewsOf(g, wrong, edge), g, wrong, edge)
			}
		}
	}
}

func TestP78ColoursCanBeExchanged(t *testing.T) {
	for _, k := range graphsColoured(100) {
		g := k.graph()
		for _, colours := range coloursKnown[k.points] {
			want := len(k.fails(colours)) == 0
			if impl.Coloured(g, colours) != want {
				t.Errorf("Coloured(%v, %v) = %t", g, colours, !want)
			}
			for _, order := range colourOrders {
				if painted := impl.Painted(g, colours, order); impl.Coloured(g, painted) != want {
					t.Errorf("Coloured(%v, %v) = %t, but %t before the colours were exchanged by %v", g, painted, !want, want, order)
				}
			}
		}
	}
}

func TestColouredByHand(t *testing.T) {
	three, line := impl.Graph{Points: 3, Edges: []int{1, 2, 12}}, impl.Graph{Points: 3, Edges: []int{1, 12}}
	for _, of := range []struct {
		g       impl.Graph
		colours []int
		want    bool
	}{
		{three, []int{0, 1, 2}, true}, {three, []int{2, 0, 1}, true}, {three, []int{0, 1, 1}, false}, {three, []int{0, 1, 0}, false}, {three, []int{2, 2, 2}, false},
		{line, []int{0, 1, 0}, true}, {line, []int{1, 1, 0}, false}, {line, []int{0, 1, 1}, false}, {line, []int{0, 1, 3}, false}, {line, []int{0, -1, 0}, false}, {line, []int{0, 1}, false}, {line, []int{0, 1, 0, 1}, false},
		{impl.Graph{Points: 1}, []int{2}, true}, {impl.Graph{Points: 1}, []int{3}, false}, {impl.Graph{Points: 1}, nil, false},
		{impl.Graph{Points: 5}, []int{1, 1, 1, 1, 1}, true}, {impl.Graph{Points: 5, Edges: []int{34}}, []int{1, 1, 1, 1, 1}, false}, {impl.Graph{}, nil, false}, {impl.Graph{}, []int{0}, false},
	} {
		if impl.Coloured(of.g, of.colours) != of.want {
			t.Errorf("Coloured(%v, %v) = %t", of.g, of.colours, !of.want)
		}
	}
}

// without is a graph with one of its edges less.
func (k graphKnown) without(edge int) graphKnown {
	a, b := edge/10, edge%10
	k.joined[a][b], k.joined[b][a] = false, false
	return k
}

func TestP38AllColoursComeInSixes(t *testing.T) {
	for _, k := range allGraphs() {
		g := k.graph()
		list := impl.ColoursOf(g)
		wantColours(t, g, k.colours())
		if len(g.Edges) > 0 && len(list)%6 != 0 {
			t.Errorf("ColoursOf(%v) are %d, no multiple of six", g, len(list))
		}
		for _, colours := range list {
			if !impl.Coloured(g, colours) {
				t.Errorf("ColoursOf(%v) has %v, for which Coloured does not hold", g, colours)
			}
		}
		for _, edge := range g.Edges {
			if less := impl.ColoursOf(k.without(edge).graph()); len(less) < len(list) {
				t.Errorf("ColoursOf(%v) are %d, but %d without the edge %d", g, len(list), len(less), edge)
			}
		}
	}
}

func TestColoursOfByHand(t *testing.T) {
	for _, coloured := range colouredGraphs() {
		for _, order := range some(ordersKnown[coloured.points], 6) {
			g := coloured.moved(order).graph()
			wantNumber(t, fmt.Sprint("ways to colour ", g), len(impl.ColoursOf(g)), coloured.ways)
		}
	}
	wantColours(t, impl.Graph{Points: 1}, [][]int{{0}, {1}, {2}})
	wantColours(t, impl.Graph{Points: 1, Edges: []int{}}, [][]int{{0}, {1}, {2}})
	wantColours(t, impl.Graph{Points: 2}, [][]int{{0, 0}, {0, 1}, {0, 2}, {1, 0}, {1, 1}, {1, 2}, {2, 0}, {2, 1}, {2, 2}})
	wantColours(t, impl.Graph{Points: 2, Edges: []int{1}}, [][]int{{0, 1}, {0, 2}, {1, 0}, {1, 2}, {2, 0}, {2, 1}})
	wantColours(t, impl.Graph{Points: 3, Edges: []int{1, 2, 12}}, colourOrders)
	wantColours(t, impl.Graph{Points: 3, Edges: []int{2, 12}}, [][]int{{0, 0, 1}, {0, 0, 2}, {0, 1, 2}, {0, 2, 1}, {1, 0, 2}, {1, 1, 0}, {1, 1, 2}, {1, 2, 0}, {2, 0, 1}, {2, 1, 0}, {2, 2, 0}, {2, 2, 1}})
	wantColours(t, impl.Graph{Points: 5, Edges: []int{1, 3, 4, 12, 14, 23, 24, 34}}, [][]int{{0, 1, 0, 1, 2}, {0, 2, 0, 2, 1}, {1, 0, 1, 0, 2}, {1, 2, 1, 2, 0}, {2, 0, 2, 0, 1}, {2, 1, 2, 1, 0}})
}

func TestColoursOfGraphsAtTheEdges(t *testing.T) {
	all := impl.ColoursOf(impl.Graph{Points: 5})
	if len(all) != 243 {
		t.Fatalf("the graph of 5 points without edges is coloured in %d ways", len(all))
	}
	for n, colours := range all {
		wantList(t, "all colours of 5 points", colours, []int{n / 81, n / 27 % 3, n / 9 % 3, n / 3 % 3, n % 3}, n)
	}
	for _, g := range []impl.Graph{graphsOf(4)[63].graph(), graphsOf(5)[1023].graph(), graphsOf(5)[511].graph(), {Points: 5, Edges: []int{12, 13, 14, 23, 24, 34}}} {
		if got := impl.ColoursOf(g); len(got) != 0 {
			t.Errorf("ColoursOf(%v) = %v, want none", g, got)
		}
	}
	for _, wrong := range append(graphsWrong(), impl.Graph{}) {
		if got := impl.ColoursOf(wrong); got != nil {
			t.Errorf("ColoursOf(%v) = %v, want nil", wrong, got)
		}
	}
}

func TestP79PaintedBackItIsAsBefore(t *testing.T) {
	for _, k := range graphsColoured(60) {
		g := k.graph()
		for _, colours := range coloursKnown[k.points] {
			fails, _ := impl.FailsOf(g, colours)
			for _, order := range colourOrders {
				painted := impl.Painted(g, colours, order)
				wantList(t, "Painted", painted, paintedKnown(colours, order), g, colours, order)
				wantList(t, "and back, Painted", impl.Painted(g, painted, impl.OrderBack(order)), colours, g, colours, order)
				again, ok := impl.FailsOf(g, painted)
				if wantList(t, "FailsOf what was painted", again, fails, g, colours, order); !ok {
					t.Errorf("FailsOf(%v, %v) is false", g, painted)
				}
			}
		}
	}
}

func TestPaintedByHand(t *testing.T) {
	g := impl.Graph{Points: 4, Edges: []int{1, 12, 23}}
	for i, want := range [][]int{{0, 1, 2, 1}, {0, 2, 1, 2}, {1, 0, 2, 0}, {1, 2, 0, 2}, {2, 0, 1, 0}, {2, 1, 0, 1}} {
		wantList(t, "Painted", impl.Painted(g, []int{0, 1, 2, 1}, colourOrders[i]), want, i)
	}
	wantList(t, "Painted one point", impl.Painted(impl.Graph{Points: 1}, []int{2}, []int{1, 2, 0}), []int{0})
	wantList(t, "Painted one point, edges empty", impl.Painted(impl.Graph{Points: 1, Edges: []int{}}, []int{0}, []int{1, 2, 0}), []int{1})
	wantList(t, "Painted five points", impl.Painted(impl.Graph{Points: 5}, []int{2, 2, 0, 0, 1}, []int{2, 0, 1}), []int{1, 1, 2, 2, 0})
	// Colours need not be right.
	wantList(t, "Painted with an edge that fails", impl.Painted(impl.Graph{Points: 2, Edges: []int{1}}, []int{2, 2}, []int{1, 2, 0}), []int{0, 0})
}

func TestPaintedByNoOrder(t *testing.T) {
	for _, k := range graphsColoured(10) {
		for _, colours := range some(coloursKnown[k.points], 4) {
			for _, wrong := range colourOrdersWrong() {
				wantNone(t, "Painted", impl.Painted(k.graph(), colours, wrong), k.graph(), colours, wrong)
			}
		}
	}
}

// viewsKnown counts the pairs of colours that two colours become over all six orders.
func viewsKnown(first int, second int) []int {
	views := make([]int, 9)
	for _, order := range colourOrders {
		views[3*order[first]+order[second]]++
	}
	return views
}

func TestP39BoxesTellNothing(t *testing.T) {
	for _, k := range graphsColoured(60) {
		g := k.graph()
		for _, colours := range coloursKnown[k.points] {
			for _, edge := range g.Edges {
				views := impl.ViewsOf(g, colours, edge)
				first, second := colours[edge/10], colours[edge%10]
				wantList(t, "ViewsOf", views, viewsKnown(first, second), g, colours, edge)
				if first != second {
					wantList(t, "ends of different colours, ViewsOf", views, impl.ViewsMade(1), g, colours, edge)
					continue
				}
				for pair, seen := range views {
					if pair/3 != pair%3 && seen != 0 {
						t.Errorf("ViewsOf(%v, %v, %d) = %v sees a pair of different colours", g, colours, edge, views)
					}
				}
			}
		}
	}
}

func TestViewsOfByHand(t *testing.T) {
	different, same := []int{0, 1, 1, 1, 0, 1, 1, 1, 0}, []int{2, 0, 0, 0, 2, 0, 0, 0, 2}
	three := impl.Graph{Points: 3, Edges: []int{1, 2, 12}}
	for _, edge := range three.Edges {
		wantList(t, "ViewsOf", impl.ViewsOf(three, []int{0, 1, 2}, edge), different, edge)
		wantList(t, "ViewsOf", impl.ViewsOf(three, []int{2, 2, 2}, edge), same, edge)
	}
	wantList(t, "ViewsOf", impl.ViewsOf(three, []int{0, 1, 1}, 1), different)
	wantList(t, "ViewsOf", impl.ViewsOf(three, []int{0, 1, 1}, 12), same)
	wantList(t, "ViewsOf", impl.ViewsOf(impl.Graph{Points: 5, Edges: []int{4, 34}}, []int{2, 0, 0, 1, 1}, 34), same)
	wantList(t, "ViewsOf", impl.ViewsOf(impl.Graph{Points: 5, Edges: []int{4, 34}}, []int{2, 0, 0, 1, 1}, 4), different)
}

func TestViewsOfNoEdge(t *testing.T) {
	for _, k := range graphsColoured(30) {
		for _, colours := range some(coloursKnown[k.points], 3) {
			for _, edge := range k.edgesOther() {
				wantNone(t, "ViewsOf", impl.ViewsOf(k.graph(), colours, edge), k.graph(), colours, edge)
			}
		}
	}
}

func TestP80WhatIsMadeUpIsEven(t *testing.T) {
	for times := 1; times <= impl.MaxTimes; times++ {
		views := impl.ViewsMade(times)
		wantNumber(t, "numbers", len(views), 9, times)
		seen := 0
		for pair, many := range views {
			if many != 0 {
				seen++
				wantNumber(t, "ViewsMade, of a pair", many, times, times, pair)
			}
			if pair/3 == pair%3 {
				wantNumber(t, "ViewsMade, of one colour twice", many, 0, times, pair)
			}
		}
		wantNumber(t, "pairs that are seen", seen, 6, times)
	}
}

func TestViewsMadeAtTheEdges(t *testing.T) {
	wantNumber(t, "MaxTimes", impl.MaxTimes, 5)
	wantList(t, "ViewsMade", impl.ViewsMade(1), []int{0, 1, 1, 1, 0, 1, 1, 1, 0}, 1)
	wantList(t, "ViewsMade", impl.ViewsMade(impl.MaxTimes), []int{0, 5, 5, 5, 0, 5, 5, 5, 0}, impl.MaxTimes)
	for _, times := range timesWrong {
		wantNone(t, "ViewsMade", impl.ViewsMade(times), times)
	}
}

// timesWrong are numbers of times in which nothing is asked.
var timesWrong = append([]int{0, -1, -2, -5, impl.MaxTimes + 1, impl.MaxTimes + 2, 10, 256, 257, 1 << 32, 1<<32 + 1, 1<<32 + 5}, numbersFarOff...)

func TestP40WhoKnowsNoColoursFails(t *testing.T) {
	for _, k := range allGraphs() {
		g := k.graph()
		want, fewest := k.best()
		wantCheat(t, g, want, fewest)
		colours, many := impl.BestCheat(g)
		if fails, ok := impl.FailsOf(g, colours); !ok || len(fails) != many {
			t.Errorf("BestCheat(%v) = %v, %d, but %v fail", g, colours, many, fails)
		}
		if (many == 0) != (len(impl.ColoursOf(g)) > 0) {
			t.Errorf("BestCheat(%v) = %v, %d, but there are %d colours", g, colours, many, len(impl.ColoursOf(g)))
		}
		if 3*many > len(g.Edges) {
			t.Errorf("BestCheat(%v) = %v, %d, more than a third of all edges", g, colours, many)
		}
		if list := impl.ColoursOf(g); len(list) > 0 {
			wantList(t, "the first colours, BestCheat", colours, list[0], g)
		}
	}
}

func TestBestCheatByHand(t *testing.T) {
	for _, coloured := range colouredGraphs() {
		for _, order := range some(ordersKnown[coloured.points], 6) {
			if _, fails := impl.BestCheat(coloured.moved(order).graph()); fails != coloured.fails {
				t.Errorf("BestCheat(%v): %d edges fail, want %d", coloured.moved(order).graph(), fails, coloured.fails)
			}
		}
	}
	for points := 1; points <= 5; points++ {
		wantCheat(t, impl.Graph{Points: points}, slices.Repeat([]int{0}, points), 0)
		wantCheat(t, impl.Graph{Points: points, Edges: []int{}}, slices.Repeat([]int{0}, points), 0)
	}
	wantCheat(t, impl.Graph{Points: 2, Edges: []int{1}}, []int{0, 1}, 0)
	wantCheat(t, impl.Graph{Points: 3, Edges: []int{1, 2, 12}}, []int{0, 1, 2}, 0)
	wantCheat(t, impl.Graph{Points: 5, Edges: []int{34}}, []int{0, 0, 0, 0, 1}, 0)
	wantCheat(t, impl.Graph{Points: 5, Edges: []int{1, 4, 12, 23, 34}}, []int{0, 1, 0, 1, 2}, 0)
	wantCheat(t, graphsOf(4)[63].graph(), []int{0, 0, 1, 2}, 1)
	wantCheat(t, graphsOf(5)[1023].graph(), []int{0, 0, 1, 1, 2}, 2)
	wantCheat(t, impl.Graph{Points: 5, Edges: []int{12, 13, 14, 23, 24, 34}}, []int{0, 0, 0, 1, 2}, 1)
	wantCheat(t, impl.Graph{Points: 5, Edges: []int{2, 3, 4, 12, 13, 14, 23, 24, 34}}, []int{0, 0, 1, 1, 2}, 1)
}

func TestBestCheatOfOthers(t *testing.T) {
	for _, wrong := range append(graphsWrong(), impl.Graph{}) {
		if colours, fails := impl.BestCheat(wrong); colours != nil || fails != -1 {
			t.Errorf("BestCheat(%v) = %v, %d, want nil, -1", wrong, colours, fails)
		}
	}
}

func TestP41AskedMoreOftenCheatersOfGraphsAreSeldom(t *testing.T) {
	for _, k := range allGraphs() {
		g := k.graph()
		if len(g.Edges) == 0 {
			continue
		}
		most, all := big.NewRat(1, 1), int64(len(g.Edges))
		for times := 1; times <= impl.MaxTimes; times++ {
			up, down := impl.FoundOut(g, times)
			wantFraction(t, "FoundOut", up, down, k.notFound(times), g, times)
			most.Mul(most, big.NewRat(all-1, all))
			is := len(impl.ColoursOf(g)) > 0
			if is != (up == 1 && down == 1) || !is && big.NewRat(int64(up), int64(down)).Cmp(most) > 0 {
				t.Errorf("FoundOut(%v, %d) = %d, %d, but there are %d colours", g, times, up, down, len(impl.ColoursOf(g)))
			}
		}
	}
}

func TestFoundOutByHand(t *testing.T) {
	found := func(g impl.Graph, times int, wantUp int, wantDown int) {
		t.Helper()
		if up, down := impl.FoundOut(g, times); up != wantUp || down != wantDown {
			t.Errorf("FoundOut(%v, %d) = %d, %d, want %d, %d", g, times, up, down, wantUp, wantDown)
		}
	}
	four, five := graphsOf(4)[63].graph(), graphsOf(5)[1023].graph()
	for times := 1; times <= 5; times++ {
		found(impl.Graph{Points: 2, Edges: []int{1}}, times, 1, 1)
		found(impl.Graph{Points: 3, Edges: []int{1, 2, 12}}, times, 1, 1)
		found(impl.Graph{Points: 5, Edges: []int{1, 3, 4, 12, 14, 23, 24, 34}}, times, 1, 1)
	}
	found(four, 1, 5, 6)
	found(four, 2, 25, 36)
	found(four, 5, 3125, 7776)
	// Two of ten edges fail.
	found(five, 1, 4, 5)
	found(five, 2, 16, 25)
	found(five, 5, 1024, 3125)
	found(impl.Graph{Points: 5, Edges: []int{1, 12, 13, 14, 23, 24, 34}}, 3, 216, 343)
}

func TestFoundOutOfOthers(t *testing.T) {
	for points := 1; points <= 5; points++ {
		for times := 0; times <= 6; times++ {
			for _, edges := range [][]int{nil, {}} {
				up, down := impl.FoundOut(impl.Graph{Points: points, Edges: edges}, times)
				wantNoFraction(t, "FoundOut", up, down, points, times)
			}
		}
	}
	for _, wrong := range append(graphsWrong(), impl.Graph{}) {
		for times := 0; times <= 6; times++ {
			up, down := impl.FoundOut(wrong, times)
			wantNoFraction(t, "FoundOut", up, down, wrong, times)
		}
	}
	for _, k := range graphsColoured(20) {
		for _, times := range timesWrong {
			up, down := impl.FoundOut(k.graph(), times)
			wantNoFraction(t, "FoundOut", up, down, k.graph(), times)
		}
	}
}

// coloursOk tells whether colours are such of all points of a graph.
func coloursOk(g impl.Graph, colours []int) bool {
	return impl.GraphOk(g) && slices.ContainsFunc(coloursKnown[g.Points], func(row []int) bool { return slices.Equal(row, colours) })
}

// TestColoursOfOddArguments calls everything with graphs, colours, orders and edges that do not belong together: what is refused is refused by all, and nothing panics.
func TestColoursOfOddArguments(t *testing.T) {
	graphs := append(some(graphsWrong(), 30), impl.Graph{}, impl.Graph{Points: 1}, impl.Graph{Points: 2, Edges: []int{1}}, impl.Graph{Points: 3, Edges: []int{2, 12}}, impl.Graph{Points: 4, Edges: []int{3, 13}}, impl.Graph{Points: 5, Edges: []int{4, 34}})
	rows := append(coloursAny(), []int{math.MinInt, math.MaxInt}, []int{math.MinInt, 0, 1}, []int{0, 1, 2, 3}, []int{3, 2, 1, 0}, []int{2, 1, 0})
	for _, g := range graphs {
		for _, colours := range rows {
			is := coloursOk(g, colours)
			if fails, ok := impl.FailsOf(g, colours); ok != is || !ok && fails != nil {
				t.Errorf("FailsOf(%v, %v) = %v, %t", g, colours, fails, ok)
			}
			if impl.Coloured(g, colours) && !is {
				t.Errorf("Coloured(%v, %v) = true", g, colours)
			}
			for _, order := range rows {
				want := is && orderKnown(order, 3)
				if painted := impl.Painted(g, colours, order); (painted != nil) != want || want && !coloursOk(g, painted) {
					t.Errorf("Painted(%v, %v, %v) = %v", g, colours, order, painted)
				}
			}
			for _, edge := range append(append([]int{0, 1, -1, 2, 3, 4, 10, 12, 13, 21, 34, 45, 99}, numbersFarOff...), g.Edges...) {
				if views := impl.ViewsOf(g, colours, edge); (views != nil) != (is && slices.Contains(g.Edges, edge)) {
					t.Errorf("ViewsOf(%v, %v, %d) = %v", g, colours, edge, views)
				}
			}
		}
	}
}

// TestColoursAreNewMemory writes over all results, and then looks at the arguments, at the other results, and at the same results once more.
func TestColoursAreNewMemory(t *testing.T) {
	for _, k := range graphsColoured(30) {
		g := k.graph()
		best, _ := k.best()
		for _, colours := range append(some(coloursKnown[k.points], 8), slices.Repeat([]int{1}, k.points)) {
			order := colourOrders[(len(g.Edges)+colours[0])%6]
			roomG, roomColours, roomOrder := roomyGraph(g), roomy(colours), roomy(order)
			for range 2 {
				fails, _ := impl.FailsOf(roomG, roomColours)
				cheat, _ := impl.BestCheat(roomG)
				results := [][]int{fails, cheat, impl.Painted(roomG, roomColours, roomOrder), impl.ViewsMade(2)}
				rights := [][]int{k.fails(colours), best, paintedKnown(colours, order), {0, 2, 2, 2, 0, 2, 2, 2, 0}}
				for _, edge := range g.Edges {
					results = append(results, impl.ViewsOf(roomG, roomColours, edge))
					rights = append(rights, viewsKnown(colours[edge/10], colours[edge%10]))
				}
				impl.Coloured(roomG, roomColours)
				impl.FoundOut(roomG, 3)
				for i, result := range results {
					wantList(t, "the result after those before were written over, ", result, rights[i], g, colours, order, i)
					spoil(result)
				}
				wantKept(t, "the edges of the graph", roomG.Edges, g.Edges)
				wantKept(t, "colours", roomColours, colours)
				wantKept(t, "an order", roomOrder, order)
			}
		}
	}
}

// TestRowsOfColoursAreNewMemory does the same with all colours of a graph.
func TestRowsOfColoursAreNewMemory(t *testing.T) {
	for _, k := range graphsColoured(40) {
		roomG, want := roomyGraph(k.graph()), k.colours()
		for range 2 {
			got := impl.ColoursOf(roomG)
			wantNumber(t, "colours", len(got), len(want))
			for i, row := range got {
				wantList(t, "the row after those before were written over, ", row, want[i], k.graph(), i)
				spoil(row)
			}
			clear(got[:cap(got)])
		}
		wantKept(t, "the edges of the graph", roomG.Edges, k.graph().Edges)
	}
}

// TestOtherColoursAreNotWritten calls everything with what is not valid, and looks whether it was put in order.
func TestOtherColoursAreNotWritten(t *testing.T) {
	call := func(g impl.Graph, colours []int, order []int) {
		t.Helper()
		roomG, roomColours, roomOrder := roomyGraph(g), roomy(colours), roomy(order)
		impl.FailsOf(roomG, roomColours)
		impl.Coloured(roomG, roomColours)
		impl.ColoursOf(roomG)
		impl.Painted(roomG, roomColours, roomOrder)
		impl.ViewsOf(roomG, roomColours, 12)
		impl.BestCheat(roomG)
		impl.FoundOut(roomG, 2)
		wantKept(t, "the edges of a graph", roomG.Edges, g.Edges)
		wantKept(t, "colours", roomColours, colours)
		wantKept(t, "an order", roomOrder, order)
	}
	for _, wrong := range graphsWrong() {
		call(wrong, []int{2, 0, 1}, []int{2, 0, 1})
	}
	right := impl.Graph{Points: 3, Edges: []int{1, 12}}
	for _, wrong := range coloursWrong(3) {
		call(right, wrong, []int{2, 0, 1})
	}
	for _, wrong := range colourOrdersWrong() {
		call(right, []int{2, 0, 1}, wrong)
	}
}

// TestColoursAtOnce makes the same calls from some goroutines at a time: nothing is kept between calls that one could spoil for another.
func TestColoursAtOnce(t *testing.T) {
	list := graphsColoured(20)
	var callers sync.WaitGroup
	for i := range 8 {
		callers.Add(1)
		go func() {
			defer callers.Done()
			for n := range list {
				k := list[(n+i*7)%len(list)]
				colours, fails := k.best()
				wantColours(t, k.graph(), k.colours())
				wantCheat(t, k.graph(), colours, fails)
			}
		}()
	}
	callers.Wait()
}
