package tests

import (
	"fmt"
	"math"
	"regexp"
	"slices"
	"strconv"
	"strings"
	"sync"
	"testing"

	"loop.example/sigmaproofs/impl"
)

// What the tests know of each group: the exponents of its elements, and the texts of its talks.
var (
	logsOfGroups  = ofGroups(logsKnown)
	textsOfGroups = ofGroups(textsKnown)
)

func ofGroups[T any](of func(k groupKnown) T) []T {
	var list []T
	for _, k := range groupsKnown {
		list = append(list, of(k))
	}
	return list
}

// keyNote is an element on a board, and talkNote a talk on the element with a number.
func keyNote(key int) impl.Note { return impl.Note{Key: key, On: -1} }

func talkNote(on int, say int, ask int, tell int) impl.Note {
	return impl.Note{On: on, Spoken: impl.Talk{Say: say, Ask: ask, Tell: tell}}
}

// rightTalk is the talk that is right for an element with what is said and a question, by exponents alone.
func rightTalk(g int, key int, say int, ask int) impl.Talk {
	logs := logsOfGroups[g]
	return impl.Talk{Say: say, Ask: ask, Tell: (logs[say] + ask*logs[key]) % groupsKnown[g].order}
}

// rightKnown tells by exponents whether a talk is right.
func rightKnown(g int, key int, talk impl.Talk) bool {
	logs, order := logsOfGroups[g], groupsKnown[g].order
	_, element := logs[talk.Say]
	return element && talk.Ask >= 0 && talk.Ask < order && talk == rightTalk(g, key, talk.Say, talk.Ask)
}

func textOf(talk impl.Talk) string { return fmt.Sprintf("%d,%d,%d", talk.Say, talk.Ask, talk.Tell) }

// boardKnown tells whether it is a board, without the program.
func boardKnown(b impl.Board) bool {
	if b.Group < 0 || b.Group >= len(groupsKnown) || len(b.Notes) > 12 {
		return false
	}
	var keys []int
	seen := map[impl.Note]bool{}
	for _, note := range b.Notes {
		if seen[note] {
			return false
		}
		seen[note] = true
		if note.On == -1 {
			if !slices.Contains(groupsKnown[b.Group].elements, note.Key) || note.Spoken != (impl.Talk{}) {
				return false
			}
			keys = append(keys, note.Key)
		} else if note.On < 0 || note.On >= len(keys) || note.Key != 0 || !rightKnown(b.Group, keys[note.On], note.Spoken) {
			return false
		}
	}
	return true
}

// keysKnown are the elements of a board.
func keysKnown(b impl.Board) []int {
	var keys []int
	for _, note := range b.Notes {
		if note.On == -1 {
			keys = append(keys, note.Key)
		}
	}
	return keys
}

// doneKnown is a board after a deed, which can be done exactly if what is behind it is a board.
func doneKnown(b impl.Board, d impl.Deed) (impl.Board, bool) {
	after := impl.Board{Group: b.Group, Notes: slices.Clone(b.Notes)}
	switch {
	case d.Kind == 0 && d.Text == "":
		after.Notes = append(after.Notes, keyNote(d.Number))
	case d.Kind == 1 && d.Number >= 0:
		// A text that is none of a talk has the zero value here, which is right for no element.
		after.Notes = append(after.Notes, impl.Note{On: d.Number, Spoken: textsOfGroups[b.Group][d.Text]})
	case d == impl.Deed{Kind: 2} && len(b.Notes) > 0:
		after.Notes = after.Notes[:len(after.Notes)-1]
	default:
		return b, false
	}
	if !boardKnown(after) {
		return b, false
	}
	return after, true
}

// leakKnown finds two talks on an element with the same Say and different Ask; what they tell is the exponent of the element.
func leakKnown(b impl.Board, on int) (int, bool) {
	keys := keysKnown(b)
	for _, one := range b.Notes {
		for _, other := range b.Notes {
			if on >= 0 && one.On == on && other.On == on && one.Spoken.Say == other.Spoken.Say && one.Spoken.Ask != other.Spoken.Ask {
				return logsOfGroups[b.Group][keys[on]], true
			}
		}
	}
	return -1, false
}

var (
	keyLine  = regexp.MustCompile(`^key (0|[1-9][0-9]{0,3})$`)
	talkLine = regexp.MustCompile(`^talk ([0-9]) ([ -~]+)$`)
	madeLine = regexp.MustCompile(`^made (0|[1-9][0-9]{0,3}) (0|[1-9][0-9]{0,3}) (0|[1-9][0-9]{0,3})$`)
	leakLine = regexp.MustCompile(`^leak (0|[1-9][0-9]{0,3})$`)
)

// deedKnown is the deed that a text tells.
func deedKnown(s string) (impl.Deed, bool) {
	if s == "back" {
		return impl.Deed{Kind: 2}, true
	}
	if parts := keyLine.FindStringSubmatch(s); parts != nil {
		n, _ := strconv.Atoi(parts[1])
		return impl.Deed{Kind: 0, Number: n}, true
	}
	if parts := talkLine.FindStringSubmatch(s); parts != nil {
		n, _ := strconv.Atoi(parts[1])
		return impl.Deed{Kind: 1, Number: n, Text: parts[2]}, true
	}
	return impl.Deed{}, false
}

// deedTextKnown is the text that tells a deed, if there is one.
func deedTextKnown(d impl.Deed) string {
	s := []string{fmt.Sprintf("key %d", d.Number), fmt.Sprintf("talk %d %s", d.Number, d.Text), "back"}[max(0, min(d.Kind, 2))]
	if read, ok := deedKnown(s); !ok || read != d {
		return ""
	}
	return s
}

// madeKnown answers a line of the kind "made": what is said has the exponent tell, less ask times that of the element.
func madeKnown(b impl.Board, parts []string) string {
	on, _ := strconv.Atoi(parts[1])
	ask, _ := strconv.Atoi(parts[2])
	tell, _ := strconv.Atoi(parts[3])
	k, keys := groupsKnown[b.Group], keysKnown(b)
	if on >= len(keys) || ask >= k.order || tell >= k.order {
		return "what"
	}
	say := powerKnown(k, k.base, (tell+(k.order-ask)*logsOfGroups[b.Group][keys[on]])%k.order)
	return textOf(impl.Talk{Say: say, Ask: ask, Tell: tell})
}

// lineAnswered is a board after a line, and the answer.
func lineAnswered(b impl.Board, line string) (impl.Board, string) {
	if d, ok := deedKnown(line); ok {
		after, done := doneKnown(b, d)
		return after, map[bool]string{true: "ok", false: "no"}[done]
	}
	k := groupsKnown[b.Group]
	switch line {
	case "group":
		return b, fmt.Sprintf("%d,%d,%d", k.prime, k.order, k.base)
	case "keys":
		return b, fmt.Sprint(len(keysKnown(b)))
	case "notes":
		return b, fmt.Sprint(len(b.Notes))
	}
	if parts := madeLine.FindStringSubmatch(line); parts != nil {
		return b, madeKnown(b, parts)
	}
	if parts := leakLine.FindStringSubmatch(line); parts != nil {
		on, _ := strconv.Atoi(parts[1])
		if on >= len(keysKnown(b)) {
			return b, "what"
		}
		if secret, told := leakKnown(b, on); told {
			return b, fmt.Sprint(secret)
		}
		return b, "none"
	}
	return b, "what"
}

// dice is a row of numbers that look mixed, and are the same whenever the tests run.
type dice uint64

func (d *dice) upTo(n int) int {
	*d = *d*6364136223846793005 + 1442695040888963407
	return int(*d>>33) % n
}

// deedRefused is one of some deeds of which hardly any can be done on a board.
func deedRefused(b impl.Board, d *dice) impl.Deed {
	k, keys := groupsKnown[b.Group], keysKnown(b)
	wrong := elementsWrong(k)
	list := []impl.Deed{
		{Kind: 0, Number: wrong[d.upTo(len(wrong))]},
		{Kind: 0, Number: k.base, Text: " "},
		{Kind: 1, Number: len(keys), Text: "1,0,0"},
		{Kind: 1, Number: -1, Text: "1,0,0"},
		{Kind: 1, Number: 0, Text: "1,0,1"},
		{Kind: 1, Number: 0, Text: "01,0,0"},
		{Kind: 1, Number: 0},
		{Kind: 2, Number: 1},
		{Kind: 2, Text: "back"},
		{Kind: 3},
		{Kind: -1, Number: k.base},
	}
	if len(keys) > 0 {
		list = append(list, impl.Deed{Kind: 0, Number: keys[d.upTo(len(keys))]})
	}
	if last := len(b.Notes) - 1; last >= 0 && b.Notes[last].On != -1 {
		list = append(list, impl.Deed{Kind: 1, Number: b.Notes[last].On, Text: textOf(b.Notes[last].Spoken)})
	}
	return list[d.upTo(len(list))]
}

// deedMixed is a deed on a board; of twenty about so many as are told take back, and three are refused, besides those that stand there already. Few elements are said, so that some exponents are told.
func deedMixed(b impl.Board, backs int, d *dice) impl.Deed {
	k, keys := groupsKnown[b.Group], keysKnown(b)
	switch n := d.upTo(20); {
	case n < 3:
		return deedRefused(b, d)
	case n < 3+backs:
		return impl.Deed{Kind: 2}
	case n > 16 || len(keys) == 0:
		return impl.Deed{Kind: 0, Number: k.elements[d.upTo(k.order)]}
	}
	on := d.upTo(len(keys))
	talk := rightTalk(b.Group, keys[on], k.elements[d.upTo(3)], d.upTo(k.order))
	return impl.Deed{Kind: 1, Number: on, Text: textOf(talk)}
}

// sequence is a row of deeds on the board of a group without notes, with all the boards before, between and behind them.
type sequence struct {
	g      int
	deeds  []impl.Deed
	boards []impl.Board
}

func sequenceOf(g int, many int, backs int, d *dice) sequence {
	s := sequence{g: g, boards: []impl.Board{{Group: g}}}
	for range many {
		b := s.boards[len(s.boards)-1]
		next := deedMixed(b, backs, d)
		after, _ := doneKnown(b, next)
		s.deeds, s.boards = append(s.deeds, next), append(s.boards, after)
	}
	return s
}

// sequencesTried are sequences of MaxLines deeds in all groups: some that hardly ever take back, and fill the board, and others that take back as often as they put there.
var sequencesTried = allSequences()

func allSequences() []sequence {
	var list []sequence
	d := dice(7)
	for g := range groupsKnown {
		for backs := range 10 {
			for range 6 {
				list = append(list, sequenceOf(g, 40, backs, &d))
			}
		}
	}
	return list
}

// smallBoards are all boards of a group with at most so many notes.
func smallBoards(g int, notes int) []impl.Board {
	k := groupsKnown[g]
	list := []impl.Board{{Group: g}}
	for from := 0; from < len(list); from++ {
		b := list[from]
		if len(b.Notes) == notes {
			continue
		}
		add := func(note impl.Note) {
			if after := (impl.Board{Group: g, Notes: append(slices.Clone(b.Notes), note)}); boardKnown(after) {
				list = append(list, after)
			}
		}
		for _, key := range k.elements {
			add(keyNote(key))
		}
		for on, key := range keysKnown(b) {
			for _, say := range k.elements {
				for ask := range k.order {
					add(impl.Note{On: on, Spoken: rightTalk(g, key, say, ask)})
				}
			}
		}
	}
	return list
}

// boardsTried are all boards of the group 0 with at most 3 notes, and those of the sequences.
func boardsTried() []impl.Board {
	list := smallBoards(0, 3)
	for _, s := range sequencesTried {
		list = append(list, s.boards...)
	}
	return list
}

// fullBoards have as many notes as there may be: many talks, and in the groups that have as many elements many elements.
func fullBoards() []impl.Board {
	var list []impl.Board
	for g, k := range groupsKnown {
		for keys := range min(k.order, 12) {
			b := impl.Board{Group: g}
			for on := range keys + 1 {
				b.Notes = append(b.Notes, keyNote(k.elements[(on*2+g)%k.order]))
			}
			for n := 0; len(b.Notes) < 12 && n < k.order*k.order; n++ {
				on := n % (keys + 1)
				b.Notes = append(b.Notes, impl.Note{On: on, Spoken: rightTalk(g, keysKnown(b)[on], k.elements[n%k.order], n/k.order)})
			}
			if len(b.Notes) == 12 {
				list = append(list, b)
			}
		}
	}
	return list
}

// boardsWrong are what is no board: each defect alone, on boards of all groups, before, between and behind notes that are right.
func boardsWrong() []impl.Board {
	var list []impl.Board
	for _, g := range groupsWrong() {
		list = append(list, impl.Board{Group: g}, impl.Board{Group: g, Notes: []impl.Note{keyNote(1)}}, impl.Board{Group: g, Notes: []impl.Note{keyNote(2), talkNote(0, 1, 0, 0)}})
	}
	for _, b := range fullBoards() {
		k, last := groupsKnown[b.Group], b.Notes[11]
		list = append(list, withNote(b, 12, b.Notes[0]), withNote(b, 12, last), withNote(b, 12, talkNote(0, 1, 0, 0)))
		for _, key := range k.elements {
			list = append(list, withNote(b, 12, keyNote(key)))
		}
		list = append(list, impl.Board{Group: b.Group, Notes: slices.Repeat(b.Notes, 2)}, impl.Board{Group: b.Group, Notes: slices.Repeat(b.Notes, 1000)})
	}
	for g, k := range groupsKnown {
		first, second := k.elements[1], k.elements[2]
		right, other := impl.Note{On: 0, Spoken: rightTalk(g, first, k.base, 1)}, impl.Note{On: 1, Spoken: rightTalk(g, second, 1, 2)}
		b := impl.Board{Group: g, Notes: []impl.Note{keyNote(first), right, keyNote(second), other}}
		for at := range len(b.Notes) + 1 {
			for _, note := range notesWrong(g) {
				list = append(list, withNote(b, at, note))
			}
			for _, note := range b.Notes {
				list = append(list, withNote(b, at, note))
			}
		}
		for on := range 5 {
			list = append(list, impl.Board{Group: g, Notes: []impl.Note{talkNote(on, 1, 0, 0)}}, impl.Board{Group: g, Notes: []impl.Note{talkNote(on, 1, 0, 0), keyNote(1)}})
		}
		list = append(list, impl.Board{Group: g, Notes: []impl.Note{keyNote(first), other, keyNote(second), right}}, impl.Board{Group: g, Notes: []impl.Note{right, keyNote(first)}}, impl.Board{Group: g, Notes: b.Notes[1:]})
	}
	return list
}

// withNote is a copy of a board with a note at a place.
func withNote(b impl.Board, at int, note impl.Note) impl.Board {
	return impl.Board{Group: b.Group, Notes: slices.Insert(slices.Clone(b.Notes), at, note)}
}

// notesWrong are notes that stand on no board of a group: no element, no talk, or a bit of both.
func notesWrong(g int) []impl.Note {
	k := groupsKnown[g]
	list := []impl.Note{{}, {On: -1}, {Key: 1}, {Key: k.base}, {Key: k.base, On: 1}, {Key: k.base, On: -2}, {On: -2}, {On: math.MinInt}}
	for _, a := range elementsWrong(k) {
		list = append(list, keyNote(a), impl.Note{On: 0, Spoken: impl.Talk{Say: a}})
	}
	// With the question 0 a talk is right for every element.
	talk := impl.Talk{Say: k.base, Ask: 0, Tell: 1}
	for _, on := range append([]int{-2, -3, 2, 3, 4, 12, 1 << 32}, numbersFarOff...) {
		list = append(list, impl.Note{On: on, Spoken: talk}, impl.Note{Key: k.base, On: on}, impl.Note{Key: k.base, On: on, Spoken: talk})
	}
	for _, key := range append([]int{-1}, k.elements...) {
		list = append(list, impl.Note{Key: key, On: 0, Spoken: talk}, impl.Note{Key: key, On: 1, Spoken: talk}, impl.Note{Key: key, On: -1, Spoken: talk}, impl.Note{Key: key, On: -1, Spoken: impl.Talk{Tell: 1}})
	}
	list = append(list, impl.Note{On: -1, Spoken: talk})
	for _, wrong := range talksWrong(k) {
		list = append(list, impl.Note{On: 0, Spoken: wrong}, impl.Note{On: 1, Spoken: wrong})
	}
	for _, key := range k.elements[1:3] {
		on := slices.Index(k.elements, key) - 1
		for tell := range k.order {
			if wrong := (impl.Talk{Say: key, Ask: 1, Tell: tell}); !rightKnown(g, key, wrong) {
				list = append(list, impl.Note{On: on, Spoken: wrong})
			}
		}
	}
	return list
}

// deedsAny are deeds of all kinds, and of none: those that can be done on some board of a group, and others.
func deedsAny(g int) []impl.Deed {
	k := groupsKnown[g]
	texts := append([]string{"", " ", "1", "1,0", "1,0,0,", "01,0,0", "1,0,0 ", " 1,0,0", "1,0,0\n", "back", "\x00", "~", "1 0 0"}, fmt.Sprintf("%d,0,0", k.prime), fmt.Sprintf("1,%d,0", k.order), fmt.Sprintf("1,0,%d", k.order), "-1,0,0")
	for _, say := range some(k.elements, 4) {
		for _, ask := range some(k.exponents(), 3) {
			for _, tell := range some(k.exponents(), 4) {
				texts = append(texts, textOf(impl.Talk{Say: say, Ask: ask, Tell: tell}))
			}
		}
	}
	numbers := slices.Concat([]int{0, 1, 2, 3, 9, 10, 11, 12, -1, -2, 9999}, k.elements, []int{math.MinInt, math.MaxInt, 1 << 32})
	var list []impl.Deed
	for _, n := range numbers {
		list = append(list, impl.Deed{Kind: 0, Number: n}, impl.Deed{Kind: 2, Number: n}, impl.Deed{Kind: 0, Number: n, Text: "1,0,0"})
	}
	for _, text := range texts {
		for _, n := range []int{0, 1, 2, 10, -1} {
			list = append(list, impl.Deed{Kind: 1, Number: n, Text: text})
		}
		list = append(list, impl.Deed{Kind: 1, Number: math.MinInt, Text: text}, impl.Deed{Kind: 1, Number: math.MaxInt, Text: text}, impl.Deed{Kind: 2, Text: text})
	}
	for _, kind := range kindsWrong {
		list = append(list, impl.Deed{Kind: kind}, impl.Deed{Kind: kind, Number: 1}, impl.Deed{Kind: kind, Text: "1,0,0"})
	}
	return list
}

var kindsWrong = append([]int{-1, -2, 3, 4, 10, 256, 257, 258, 1 << 32, 1<<32 + 1, 1<<32 + 2, -1 << 32}, numbersFarOff...)

func sameBoards(a impl.Board, b impl.Board) bool {
	return a.Group == b.Group && slices.Equal(a.Notes, b.Notes)
}

func sameDeeds(a []impl.Deed, b []impl.Deed) bool { return slices.Equal(a, b) }

func wantBoard(t *testing.T, what string, got impl.Board, want impl.Board, args ...any) {
	t.Helper()
	if !sameBoards(got, want) {
		t.Errorf("%s%.300q = %v, want %v", what, fmt.Sprint(args...), got, want)
	}
}

func wantText(t *testing.T, what string, got string, want string, args ...any) {
	t.Helper()
	if got != want {
		t.Errorf("%s%.300q = %.200q, want %.200q", what, fmt.Sprint(args...), got, want)
	}
}

func wantTexts(t *testing.T, what string, got []string, want []string, args ...any) {
	t.Helper()
	if !slices.Equal(got, want) {
		t.Errorf("%s%.300q = %q, want %q", what, fmt.Sprint(args...), got, want)
	}
}

func wantBoardOk(t *testing.T, b impl.Board, want bool) {
	t.Helper()
	if got := impl.BoardOk(b); got != want {
		t.Errorf("BoardOk(%.300q) = %t, want %t", fmt.Sprint(b), got, want)
	}
}

func wantDone(t *testing.T, b impl.Board, d impl.Deed, want impl.Board, wantOk bool) {
	t.Helper()
	if got, ok := impl.BoardDo(b, d); !sameBoards(got, want) || ok != wantOk {
		t.Errorf("BoardDo(%v, %.100q) = %v, %t, want %v, %t", b, fmt.Sprint(d), got, ok, want, wantOk)
	}
}

func wantRun(t *testing.T, b impl.Board, list []impl.Deed, want impl.Board, wantMany int) {
	t.Helper()
	if got, many := impl.BoardRun(b, list); !sameBoards(got, want) || many != wantMany {
		t.Errorf("BoardRun(%v, %.300q) = %v, %d, want %v, %d", b, fmt.Sprint(list), got, many, want, wantMany)
	}
}

func wantLeak(t *testing.T, b impl.Board, on int, want int, wantOk bool) {
	t.Helper()
	if got, ok := impl.LeakOf(b, on); got != want || ok != wantOk {
		t.Errorf("LeakOf(%v, %d) = %d, %t, want %d, %t", b, on, got, ok, want, wantOk)
	}
}

// wantDeed holds what is read from a text against the deed that it tells, if it tells one.
func wantDeed(t *testing.T, s string) {
	t.Helper()
	want, wantOk := deedKnown(s)
	if got, ok := impl.ReadDeed(s); got != want || ok != wantOk {
		t.Errorf("ReadDeed(%.100q) = %.100q, %t, want %v, %t", s, fmt.Sprint(got), ok, want, wantOk)
	}
}

func wantJournal(t *testing.T, s string, want []impl.Deed, wantBytes int) {
	t.Helper()
	if got, bytes := impl.ReadJournal(s); !sameDeeds(got, want) || bytes != wantBytes {
		t.Errorf("ReadJournal(%.300q) = %.300q, %d, want %.300q, %d", s, fmt.Sprint(got), bytes, fmt.Sprint(want), wantBytes)
	}
}

func wantLine(t *testing.T, b impl.Board, line string, want impl.Board, wantAnswer string) {
	t.Helper()
	if got, answer := impl.BoardLine(b, line); !sameBoards(got, want) || answer != wantAnswer {
		t.Errorf("BoardLine(%v, %.100q) = %v, %q, want %v, %q", b, line, got, answer, want, wantAnswer)
	}
}

func wantSay(t *testing.T, b impl.Board, lines []string, want impl.Board, wantAnswers []string) {
	t.Helper()
	if got, answers := impl.BoardSay(b, lines); !sameBoards(got, want) || !slices.Equal(answers, wantAnswers) {
		t.Errorf("BoardSay(%v, %.300q) = %v, %q, want %v, %q", b, lines, got, answers, want, wantAnswers)
	}
}

func TestBoardBounds(t *testing.T) {
	wantNumber(t, "BdKey", impl.BdKey, 0)
	wantNumber(t, "BdTalk", impl.BdTalk, 1)
	wantNumber(t, "BdBack", impl.BdBack, 2)
	wantNumber(t, "MaxBoard", impl.MaxBoard, 12)
	wantNumber(t, "MaxLines", impl.MaxLines, 40)
}

// TestSequencesAreMixed looks whether the sequences have what the tests want to see: in each group full boards and empty ones, exponents that are told and others that are not, deeds of all kinds that are done, and some that are not.
func TestSequencesAreMixed(t *testing.T) {
	for g := range groupsKnown {
		done, refused := map[int]int{}, map[int]int{}
		var full, bare, told, untold int
		for _, s := range sequencesTried {
			if s.g != g {
				continue
			}
			for i, d := range s.deeds {
				if _, ok := doneKnown(s.boards[i], d); ok {
					done[d.Kind]++
				} else {
					refused[d.Kind]++
				}
				if len(s.boards[i+1].Notes) == 12 {
					full++
				}
				if len(s.boards[i+1].Notes) == 0 {
					bare++
				}
				if _, ok := leakKnown(s.boards[i+1], 0); ok {
					told++
				} else {
					untold++
				}
			}
		}
		for kind := range 3 {
			if done[kind] < 100 || refused[kind] < 20 {
				t.Errorf("of group %d %d deeds of the kind %d are done, and %d refused", g, done[kind], kind, refused[kind])
			}
		}
		if min(full, bare, told, untold) < 50 {
			t.Errorf("of group %d %d boards are full, %d empty, %d told, %d not", g, full, bare, told, untold)
		}
	}
	for _, b := range append(boardsTried(), fullBoards()...) {
		if !boardKnown(b) {
			t.Errorf("%v is no board", b)
		}
	}
}

func TestP85BoardsLoseTheirLastNote(t *testing.T) {
	for _, b := range append(boardsTried(), fullBoards()...) {
		wantBoardOk(t, b, true)
		for many := range b.Notes {
			wantBoardOk(t, impl.Board{Group: b.Group, Notes: b.Notes[:many]}, true)
		}
		for _, note := range b.Notes {
			if note.On != -1 {
				wantBool(t, "TalkOk of a talk on a board", impl.TalkOk(b.Group, impl.KeysOn(b)[note.On], note.Spoken), true, b.Group, note.On)
			}
		}
	}
}

// TestBoardOkOfAnyNotes holds all rows of up to two notes of many against boardKnown, and all rows of up to three of fewer.
func TestBoardOkOfAnyNotes(t *testing.T) {
	var many, few []impl.Note
	talks := append(some(talksOfGroup(groupsKnown[0]), 8), impl.Talk{}, impl.Talk{Say: 1}, impl.Talk{Say: 2, Ask: 1}, impl.Talk{Say: 4, Ask: 2, Tell: 1})
	for _, on := range []int{-1, 0, 1, -2} {
		for _, key := range []int{0, 1, 2, 4, 3, -1} {
			for _, talk := range talks {
				many = append(many, impl.Note{Key: key, On: on, Spoken: talk})
			}
		}
	}
	for on := range 3 {
		few = append(few, talkNote(on, 1, 0, 0), talkNote(on, 2, 1, 2), talkNote(on, 2, 1, 0), talkNote(on, 1, 1, 1))
	}
	few = append(few, keyNote(1), keyNote(2), keyNote(4), keyNote(3), impl.Note{Key: 2}, impl.Note{}, impl.Note{Key: 1, On: -1, Spoken: impl.Talk{Say: 1}})
	for _, g := range []int{0, 1} {
		for _, one := range many {
			wantBoardOk(t, impl.Board{Group: g, Notes: []impl.Note{one}}, boardKnown(impl.Board{Group: g, Notes: []impl.Note{one}}))
			for _, two := range many {
				b := impl.Board{Group: g, Notes: []impl.Note{one, two}}
				wantBoardOk(t, b, boardKnown(b))
			}
		}
		for _, one := range few {
			for _, two := range few {
				for _, three := range few {
					for _, four := range few {
						b := impl.Board{Group: g, Notes: []impl.Note{one, two, three, four}}
						wantBoardOk(t, b, boardKnown(b))
					}
				}
			}
		}
	}
}

func TestBoardOkByHand(t *testing.T) {
	nine, three, talk := keyNote(9), keyNote(3), talkNote(0, 8, 4, 1)
	ok := func(want bool, notes ...impl.Note) {
		t.Helper()
		wantBoardOk(t, impl.Board{Group: 2, Notes: notes}, want)
	}
	wantBoardOk(t, impl.Board{}, true)
	wantBoardOk(t, impl.Board{Group: 4}, false)
	wantBoardOk(t, impl.Board{Group: -1}, false)
	wantBoardOk(t, impl.Board{Group: 0, Notes: []impl.Note{three}}, false)
	ok(true)
	ok(true, nine)
	ok(true, nine, talk)
	ok(true, nine, three, talk)
	ok(true, nine, talk, three)
	ok(true, nine, talk, talkNote(0, 8, 6, 0), talkNote(0, 8, 0, 3))
	ok(true, nine, three, talkNote(0, 8, 0, 3), talkNote(1, 8, 0, 3)) // the same talk on two elements
	ok(true, three, nine, talkNote(1, 8, 4, 1))
	ok(false, nine, nine)
	ok(false, nine, three, nine)
	ok(false, nine, talk, talk)
	ok(false, nine, talk, three, talk)
	ok(false, talk)
	ok(false, talk, nine)
	ok(false, three, talk, nine)
	ok(false, three, talkNote(1, 8, 4, 1), nine)
	ok(false, nine, talkNote(1, 8, 4, 1))
	ok(false, nine, talkNote(-1, 8, 4, 1))
	ok(false, nine, talkNote(-2, 8, 4, 1))
	ok(false, nine, talkNote(0, 8, 4, 2))
	ok(false, nine, talkNote(0, 5, 4, 1))
	ok(false, nine, talkNote(0, 8, 15, 1))
	ok(false, nine, talkNote(0, 8, 4, 12))
	ok(false, keyNote(5))
	ok(false, keyNote(0))
	ok(false, keyNote(-1))
	ok(false, keyNote(23))
	ok(false, impl.Note{})
	ok(false, impl.Note{Key: 9})
	ok(false, impl.Note{Key: 9, On: -2})
	ok(false, impl.Note{Key: 9, On: 1})
	ok(false, nine, impl.Note{Key: 9, Spoken: impl.Talk{Say: 8, Ask: 4, Tell: 1}})
	ok(false, impl.Note{Key: 9, On: -1, Spoken: impl.Talk{Say: 8, Ask: 4, Tell: 1}})
}

func TestBoardOkOfFullBoards(t *testing.T) {
	full := fullBoards()
	if len(full) < 2+4+11+12 {
		t.Errorf("%d full boards", len(full))
	}
	for _, b := range full {
		wantNumber(t, "notes of a full board", len(b.Notes), 12)
		wantBoardOk(t, b, true)
	}
	wantBoardOk(t, impl.Board{Group: 3, Notes: make([]impl.Note, 1<<20)}, false)
}

// TestWhatIsNoBoard calls everything with what is no board.
func TestWhatIsNoBoard(t *testing.T) {
	none := impl.Board{}
	wrong := boardsWrong()
	if len(wrong) < 2000 {
		t.Fatalf("%d boards that are none", len(wrong))
	}
	for _, b := range wrong {
		if boardKnown(b) {
			t.Fatalf("%v is a board", b)
		}
		wantBoardOk(t, b, false)
		wantNone(t, "KeysOn", impl.KeysOn(b), len(b.Notes))
		for _, d := range []impl.Deed{{Kind: 2}, {Kind: 0, Number: 1}, {Kind: 1, Text: "1,0,0"}, {Kind: 3}, {}} {
			wantDone(t, b, d, none, false)
			wantRun(t, b, []impl.Deed{d}, none, 0)
		}
		wantRun(t, b, nil, none, 0)
		wantRun(t, b, slices.Repeat([]impl.Deed{{Kind: 2}}, 40), none, 0)
		for _, on := range []int{0, 1, 2, -1, -2, 12, math.MinInt, math.MaxInt} {
			wantLeak(t, b, on, -1, false)
		}
		for _, line := range []string{"back", "key 1", "talk 0 1,0,0", "group", "keys", "notes", "made 0 1 2", "leak 0", "what", "", " "} {
			wantLine(t, b, line, none, "")
			wantSay(t, b, []string{line}, none, nil)
		}
		wantSay(t, b, nil, none, nil)
	}
}

func TestP86NewBoardsAreEmpty(t *testing.T) {
	for g := range groupsKnown {
		b := impl.BoardNew(g)
		wantBoard(t, "BoardNew", b, impl.Board{Group: g}, g)
		wantBoardOk(t, b, true)
		wantList(t, "KeysOn", impl.KeysOn(b), nil, g)
		wantNumber(t, "notes of BoardNew", len(b.Notes), 0, g)
		wantDone(t, b, impl.Deed{Kind: 2}, b, false)
		wantDone(t, b, impl.Deed{Kind: 1, Text: "1,0,0"}, b, false)
		wantRun(t, b, nil, b, 0)
		wantLeak(t, b, 0, -1, false)
		wantSay(t, b, []string{"keys", "notes", "leak 0", "made 0 1 2", "back", "talk 0 1,0,0"}, b, []string{"0", "0", "what", "what", "no", "no"})
	}
	for _, g := range groupsWrong() {
		wantBoard(t, "BoardNew", impl.BoardNew(g), impl.Board{}, g)
	}
}

func TestP87ElementsAreElements(t *testing.T) {
	for _, b := range append(boardsTried(), fullBoards()...) {
		keys := impl.KeysOn(b)
		wantList(t, "KeysOn", keys, keysKnown(b), b)
		for i, key := range keys {
			wantBool(t, "ElementOk", impl.ElementOk(b.Group, key), true, b.Group, key)
			wantBool(t, "another one is the same", slices.Contains(keys[:i], key), false, b.Group, key)
		}
	}
	b := impl.Board{Group: 2, Notes: []impl.Note{keyNote(9), talkNote(0, 8, 4, 1), keyNote(3), keyNote(1), talkNote(1, 1, 0, 0)}}
	wantList(t, "KeysOn", impl.KeysOn(b), []int{9, 3, 1})
}

// wantUndone does a deed on a board, and takes it back.
func wantUndone(t *testing.T, b impl.Board, d impl.Deed) {
	t.Helper()
	after, ok := impl.BoardDo(b, d)
	wantBoardOk(t, after, true)
	if !ok {
		wantBoard(t, "BoardDo of what cannot be done", after, b, d)
		return
	}
	if d.Kind == 2 {
		wantNumber(t, "notes after BdBack", len(after.Notes), len(b.Notes)-1)
		return
	}
	wantNumber(t, "notes after a deed", len(after.Notes), len(b.Notes)+1)
	wantDone(t, after, impl.Deed{Kind: 2}, b, true)
	wantDone(t, after, d, after, false)
}

func TestP46WhatWasDoneCanBeUndone(t *testing.T) {
	for g := range groupsKnown {
		boards := smallBoards(0, 2)
		if g != 0 {
			boards = nil
		}
		for i, s := range sequencesTried {
			if s.g == g && i%5 == 0 {
				boards = append(boards, some(s.boards, 10)...)
			}
		}
		for _, b := range boards {
			for _, d := range deedsAny(g) {
				wantUndone(t, b, d)
			}
		}
	}
	for _, s := range sequencesTried {
		for i, d := range s.deeds {
			wantUndone(t, s.boards[i], d)
		}
	}
}

// TestBoardDoOfAnyDeeds holds all deeds against doneKnown, on all small boards, full ones, and those of the sequences.
func TestBoardDoOfAnyDeeds(t *testing.T) {
	boards := append(smallBoards(0, 3), some(smallBoards(1, 3), 200)...)
	for _, s := range sequencesTried {
		boards = append(boards, some(s.boards, 4)...)
	}
	for _, b := range append(boards, fullBoards()...) {
		for _, d := range deedsAny(b.Group) {
			want, ok := doneKnown(b, d)
			wantDone(t, b, d, want, ok)
		}
	}
	for _, s := range sequencesTried {
		for i, d := range s.deeds {
			_, ok := doneKnown(s.boards[i], d)
			wantDone(t, s.boards[i], d, s.boards[i+1], ok)
		}
	}
}

// TestBoardDoOfAllTalks tries all talks of the small groups on the first and the second element.
func TestBoardDoOfAllTalks(t *testing.T) {
	for g, k := range groupsKnown[:2] {
		for _, first := range k.elements {
			for _, second := range k.elements {
				b := impl.Board{Group: g, Notes: []impl.Note{keyNote(first), keyNote(second)}}
				if first == second {
					b.Notes = b.Notes[:1]
				}
				for on := range 3 {
					for _, talk := range talksOfGroup(k) {
						d := impl.Deed{Kind: 1, Number: on, Text: textOf(talk)}
						want, ok := doneKnown(b, d)
						wantDone(t, b, d, want, ok)
					}
				}
			}
		}
	}
}

func TestBoardDoByHand(t *testing.T) {
	b := impl.Board{Group: 2}
	do := func(d impl.Deed, want bool, notes ...impl.Note) {
		t.Helper()
		after := impl.Board{Group: 2, Notes: notes}
		wantDone(t, b, d, after, want)
		b = after
	}
	nine, three, talk := keyNote(9), keyNote(3), talkNote(0, 8, 4, 1)
	back := impl.Deed{Kind: impl.BdBack}
	do(back, false)
	do(impl.Deed{Kind: impl.BdTalk, Text: "8,4,1"}, false)
	do(impl.Deed{Kind: impl.BdKey, Number: 5}, false)
	do(impl.Deed{Kind: impl.BdKey}, false)
	do(impl.Deed{Kind: impl.BdKey, Number: 9, Text: "9"}, false)
	do(impl.Deed{Kind: impl.BdKey, Number: 9}, true, nine)
	do(impl.Deed{Kind: impl.BdKey, Number: 9}, false, nine)
	do(impl.Deed{Kind: impl.BdTalk, Number: 1, Text: "8,4,1"}, false, nine)
	do(impl.Deed{Kind: impl.BdTalk, Number: -1, Text: "8,4,1"}, false, nine)
	do(impl.Deed{Kind: impl.BdTalk, Text: "8,4,2"}, false, nine)
	do(impl.Deed{Kind: impl.BdTalk, Text: "8,4,01"}, false, nine)
	do(impl.Deed{Kind: impl.BdTalk, Text: ""}, false, nine)
	do(impl.Deed{Kind: impl.BdTalk, Text: "8,4,1"}, true, nine, talk)
	do(impl.Deed{Kind: impl.BdTalk, Text: "8,4,1"}, false, nine, talk)
	do(impl.Deed{Kind: impl.BdKey, Number: 3}, true, nine, talk, three)
	do(impl.Deed{Kind: impl.BdKey, Number: 9}, false, nine, talk, three)
	do(impl.Deed{Kind: impl.BdTalk, Number: 1, Text: "8,4,1"}, false, nine, talk, three)
	do(impl.Deed{Kind: impl.BdTalk, Number: 1, Text: "8,0,3"}, true, nine, talk, three, talkNote(1, 8, 0, 3))
	do(impl.Deed{Kind: impl.BdTalk, Number: 0, Text: "8,0,3"}, true, nine, talk, three, talkNote(1, 8, 0, 3), talkNote(0, 8, 0, 3))
	do(impl.Deed{Kind: impl.BdBack, Number: 1}, false, b.Notes...)
	do(impl.Deed{Kind: impl.BdBack, Text: "8,0,3"}, false, b.Notes...)
	do(impl.Deed{Kind: 3}, false, b.Notes...)
	do(impl.Deed{Kind: -1}, false, b.Notes...)
	do(back, true, nine, talk, three, talkNote(1, 8, 0, 3))
	do(back, true, nine, talk, three)
	do(back, true, nine, talk)
	do(back, true, nine)
	do(back, true)
	do(back, false)
	// The element 1 has the exponent 0, and every question the same answer.
	do(impl.Deed{Kind: impl.BdKey, Number: 1}, true, keyNote(1))
	do(impl.Deed{Kind: impl.BdTalk, Text: "8,4,3"}, true, keyNote(1), talkNote(0, 8, 4, 3))
	do(impl.Deed{Kind: impl.BdTalk, Text: "8,5,3"}, true, keyNote(1), talkNote(0, 8, 4, 3), talkNote(0, 8, 5, 3))
}

// TestBoardsAreFilled puts notes on boards until they are full, tries one more, and takes all of them back, and one more.
func TestBoardsAreFilled(t *testing.T) {
	for _, full := range fullBoards() {
		k, b := groupsKnown[full.Group], impl.BoardNew(full.Group)
		for i, note := range full.Notes {
			d := impl.Deed{Kind: 1, Number: note.On, Text: textOf(note.Spoken)}
			if note.On == -1 {
				d = impl.Deed{Kind: 0, Number: note.Key}
			}
			wantDone(t, b, d, impl.Board{Group: full.Group, Notes: full.Notes[:i+1]}, true)
			b, _ = impl.BoardDo(b, d)
		}
		for _, key := range k.elements {
			wantDone(t, b, impl.Deed{Kind: 0, Number: key}, full, false)
		}
		for _, talk := range some(talksOfGroup(k), 300) {
			wantDone(t, b, impl.Deed{Kind: 1, Text: textOf(talk)}, full, false)
		}
		for many := 11; many >= 0; many-- {
			wantDone(t, b, impl.Deed{Kind: 2}, impl.Board{Group: full.Group, Notes: full.Notes[:many]}, true)
			b, _ = impl.BoardDo(b, impl.Deed{Kind: 2})
		}
		wantDone(t, b, impl.Deed{Kind: 2}, impl.BoardNew(full.Group), false)
	}
}

// doneMany is how many deeds of a part of a sequence can be done.
func (s sequence) doneMany(from int, to int) int {
	many := 0
	for i := from; i < to; i++ {
		if _, ok := doneKnown(s.boards[i], s.deeds[i]); ok {
			many++
		}
	}
	return many
}

func TestP47WhateverIsDoneItIsABoard(t *testing.T) {
	for _, s := range sequencesTried {
		whole, many := impl.BoardRun(impl.BoardNew(s.g), s.deeds)
		wantBoard(t, "BoardRun", whole, s.boards[len(s.deeds)], s.deeds)
		wantNumber(t, "deeds that are done", many, s.doneMany(0, len(s.deeds)))
		wantBoardOk(t, whole, true)
		wantNumber(t, "the group", whole.Group, s.g)
		for cut := range len(s.deeds) + 1 {
			first, before := impl.BoardRun(impl.BoardNew(s.g), s.deeds[:cut])
			wantBoardOk(t, first, true)
			wantBoard(t, "BoardRun of the first deeds", first, s.boards[cut], s.deeds, cut)
			wantNumber(t, "the first deeds that are done", before, s.doneMany(0, cut))
			wantRun(t, first, s.deeds[cut:], whole, many-before)
		}
	}
}

func TestBoardRunByHand(t *testing.T) {
	b := impl.Board{Group: 2, Notes: []impl.Note{keyNote(9)}}
	talk, other, back := impl.Deed{Kind: impl.BdTalk, Text: "8,4,1"}, impl.Deed{Kind: impl.BdTalk, Text: "8,6,0"}, impl.Deed{Kind: impl.BdBack}
	wrong, key, odd := impl.Deed{Kind: impl.BdTalk, Text: "8,4,2"}, impl.Deed{Kind: impl.BdKey, Number: 3}, impl.Deed{Kind: 3}
	run := func(want int, list []impl.Deed, notes ...impl.Note) {
		t.Helper()
		wantRun(t, b, list, impl.Board{Group: 2, Notes: notes}, want)
	}
	run(0, nil, keyNote(9))
	run(0, []impl.Deed{}, keyNote(9))
	run(2, []impl.Deed{talk, wrong, other}, keyNote(9), talkNote(0, 8, 4, 1), talkNote(0, 8, 6, 0))
	run(1, []impl.Deed{talk, talk, talk, odd}, keyNote(9), talkNote(0, 8, 4, 1))
	run(3, []impl.Deed{talk, back, talk}, keyNote(9), talkNote(0, 8, 4, 1))
	run(2, []impl.Deed{back, talk, key}, keyNote(3))
	run(1, []impl.Deed{back, back, back})
	run(0, []impl.Deed{wrong, odd, {}, {Kind: impl.BdBack, Number: 1}}, keyNote(9))
	// An element whose talk is taken back before it.
	run(4, []impl.Deed{talk, back, back, wrong, key}, keyNote(3))
}

func TestBoardRunOfManyDeeds(t *testing.T) {
	for g, k := range groupsKnown {
		b := impl.Board{Group: g, Notes: []impl.Note{keyNote(1)}}
		key, back, odd := impl.Deed{Kind: 0, Number: k.base}, impl.Deed{Kind: 2}, impl.Deed{Kind: 9}
		for _, pair := range [][]impl.Deed{{key, back}, {odd, odd}, {back, odd}} {
			most := slices.Repeat(pair, 20)
			after, many := b, 0
			for _, d := range most {
				var ok bool
				if after, ok = doneKnown(after, d); ok {
					many++
				}
			}
			wantRun(t, b, most, after, many)
			for _, more := range []int{1, 2, 40, 1 << 16} {
				wantRun(t, b, slices.Concat(most, slices.Repeat([]impl.Deed{odd}, more)), impl.Board{}, 0)
				wantRun(t, b, slices.Concat(most, slices.Repeat([]impl.Deed{back}, more)), impl.Board{}, 0)
			}
		}
	}
}

func TestP48TwoAnswersTellTheExponentOfAnElement(t *testing.T) {
	boards := append(smallBoards(0, 4), some(smallBoards(1, 3), 1000)...)
	for _, s := range sequencesTried {
		boards = append(boards, s.boards...)
	}
	told := 0
	for _, b := range append(boards, fullBoards()...) {
		keys := keysKnown(b)
		for on := range keys {
			want, ok := leakKnown(b, on)
			wantLeak(t, b, on, want, ok)
			if ok {
				told++
				secret, _ := impl.LeakOf(b, on)
				wantNumber(t, "KeyOf what is told", impl.KeyOf(b.Group, secret), keys[on], b.Group, secret)
			}
		}
		for _, on := range append([]int{-1, -2, len(keys), len(keys) + 1, 12, 256, 1 << 32}, numbersFarOff...) {
			wantLeak(t, b, on, -1, false)
		}
	}
	if told < 1000 {
		t.Errorf("only %d exponents are told", told)
	}
}

func TestLeakOfByHand(t *testing.T) {
	nine, three, one := keyNote(9), keyNote(3), keyNote(1)
	leak := func(on int, want int, notes ...impl.Note) {
		t.Helper()
		wantLeak(t, impl.Board{Group: 2, Notes: notes}, on, want, want != -1)
	}
	leak(0, -1)
	leak(0, -1, nine)
	leak(1, -1, nine)
	leak(-1, -1, nine, three)
	leak(0, -1, nine, talkNote(0, 8, 4, 1))
	leak(0, 5, nine, talkNote(0, 8, 4, 1), talkNote(0, 8, 6, 0))
	leak(1, -1, nine, talkNote(0, 8, 4, 1), talkNote(0, 8, 6, 0))
	leak(-1, -1, nine, talkNote(0, 8, 4, 1), talkNote(0, 8, 6, 0))
	leak(0, 5, nine, talkNote(0, 8, 6, 0), talkNote(0, 8, 4, 1))
	leak(0, -1, nine, talkNote(0, 8, 4, 1), talkNote(0, 4, 6, 10))
	// Three talks, of which two have the same Say, wherever the third one stands.
	leak(0, 5, nine, talkNote(0, 4, 6, 10), talkNote(0, 8, 4, 1), talkNote(0, 8, 6, 0))
	leak(0, 5, nine, talkNote(0, 8, 4, 1), talkNote(0, 4, 6, 10), talkNote(0, 8, 6, 0))
	leak(0, 5, nine, talkNote(0, 8, 4, 1), talkNote(0, 8, 6, 0), talkNote(0, 4, 6, 10))
	leak(0, -1, nine, talkNote(0, 8, 4, 1), talkNote(0, 4, 4, 0), talkNote(0, 2, 4, 10))
	leak(0, 5, nine, talkNote(0, 8, 4, 1), talkNote(0, 8, 6, 0), talkNote(0, 8, 0, 3))
	// The same Say on two elements does not tell, and the same talk on two elements neither.
	leak(0, -1, nine, three, talkNote(0, 8, 4, 1), talkNote(1, 8, 6, 7), talkNote(1, 8, 0, 3))
	leak(1, 8, nine, three, talkNote(0, 8, 4, 1), talkNote(1, 8, 6, 7), talkNote(1, 8, 0, 3))
	leak(0, -1, nine, three, talkNote(0, 8, 4, 1), talkNote(1, 8, 4, 2))
	leak(1, -1, nine, three, talkNote(0, 8, 4, 1), talkNote(1, 8, 4, 2))
	leak(0, -1, nine, three, talkNote(0, 8, 0, 3), talkNote(1, 8, 0, 3))
	leak(1, -1, nine, three, talkNote(0, 8, 0, 3), talkNote(1, 8, 0, 3))
	leak(0, 0, one, talkNote(0, 8, 4, 3), talkNote(0, 8, 5, 3))
	// Numbers count elements, and not notes.
	leak(1, 5, one, talkNote(0, 8, 4, 3), nine, talkNote(1, 8, 4, 1), talkNote(1, 8, 6, 0))
	leak(2, -1, one, talkNote(0, 8, 4, 3), nine, talkNote(1, 8, 4, 1), talkNote(1, 8, 6, 0))
}

// deedsWritten are deeds at the edges of what has a text, and beyond them.
func deedsWritten() []impl.Deed {
	numbers := slices.Concat([]int{0, 1, 2, 8, 9, 10, 11, 12, 99, 100, 999, 1000, 9998, 9999, 10000, 10001, 99999, -1, -9, -10, -9999, 256, 65536, 1 << 32, 1<<32 + 9}, numbersFarOff)
	texts := []string{"", "8,4,1", " ", "  ", "~", "~~", " ~", "8,4,1 ", " 8,4,1", "0", "back", "key 9", "talk 0 8,4,1", "\n", "8,4,1\n", "\n8,4,1", "8\n4", "\x00", "8\x004", "a\tb", "a\rb", "\x1f", "\x7f", "a\x7f", "\x80", "a\xff", "\u00e9", "\ufffd", "\u2028", strings.Repeat("x", 5000), strings.Repeat("~", 5000) + "\x7f"}
	var list []impl.Deed
	for _, n := range numbers {
		for _, text := range texts {
			for _, kind := range append([]int{0, 1, 2}, kindsWrong[:4]...) {
				list = append(list, impl.Deed{Kind: kind, Number: n, Text: text})
			}
		}
	}
	for _, kind := range kindsWrong {
		list = append(list, impl.Deed{Kind: kind}, impl.Deed{Kind: kind, Number: 9}, impl.Deed{Kind: kind, Text: "8,4,1"})
	}
	for n := range 256 {
		list = append(list, impl.Deed{Kind: 1, Number: 9, Text: string([]byte{byte(n)})}, impl.Deed{Kind: 1, Text: string([]byte{'8', byte(n)})}, impl.Deed{Kind: 1, Text: string([]byte{byte(n), '8'})})
	}
	return list
}

func TestP88TextsOfDeedsAreRead(t *testing.T) {
	texts := map[string]impl.Deed{}
	for _, d := range deedsWritten() {
		text := impl.DeedText(d)
		wantText(t, "DeedText", text, deedTextKnown(d), d)
		if text == "" {
			continue
		}
		if other, is := texts[text]; is && other != d {
			t.Errorf("%v and %v have the text %q", d, other, text)
		}
		texts[text] = d
		if got, ok := impl.ReadDeed(text); !ok || got != d {
			t.Errorf("ReadDeed(%.100q) = %v, %t, want %v, true", text, got, ok, d)
		}
	}
	for n := range 10000 {
		d := impl.Deed{Kind: impl.BdKey, Number: n}
		if got, ok := impl.ReadDeed(impl.DeedText(d)); !ok || got != d {
			t.Errorf("ReadDeed(DeedText(%v)) = %v, %t", d, got, ok)
		}
	}
	for _, s := range sequencesTried {
		for _, d := range s.deeds {
			wantText(t, "DeedText", impl.DeedText(d), deedTextKnown(d), d)
		}
	}
}

func TestDeedTextByHand(t *testing.T) {
	is := func(kind int, number int, text string, want string) {
		t.Helper()
		wantText(t, "DeedText", impl.DeedText(impl.Deed{Kind: kind, Number: number, Text: text}), want, kind, number, text)
		if want != "" {
			wantDeed(t, want)
		}
	}
	is(impl.BdKey, 0, "", "key 0")
	is(impl.BdKey, 9, "", "key 9")
	is(impl.BdKey, 10, "", "key 10")
	is(impl.BdKey, 9999, "", "key 9999")
	is(impl.BdKey, 10000, "", "")
	is(impl.BdKey, -1, "", "")
	is(impl.BdKey, 9, "x", "")
	is(impl.BdKey, 9, " ", "")
	is(impl.BdTalk, 0, "8,4,1", "talk 0 8,4,1")
	is(impl.BdTalk, 9, "8,4,1", "talk 9 8,4,1")
	is(impl.BdTalk, 10, "8,4,1", "")
	is(impl.BdTalk, -1, "8,4,1", "")
	is(impl.BdTalk, 9999, "8,4,1", "")
	is(impl.BdTalk, 0, "", "")
	is(impl.BdTalk, 0, " ", "talk 0  ")
	is(impl.BdTalk, 0, "~", "talk 0 ~")
	is(impl.BdTalk, 0, " a ~ ", "talk 0  a ~ ")
	is(impl.BdTalk, 0, "\x1f", "")
	is(impl.BdTalk, 0, "\x7f", "")
	is(impl.BdTalk, 0, "8,4,1\n", "")
	is(impl.BdBack, 0, "", "back")
	is(impl.BdBack, 1, "", "")
	is(impl.BdBack, -1, "", "")
	is(impl.BdBack, 0, "x", "")
	is(3, 0, "", "")
	is(-1, 0, "", "")
}

// deedTexts are texts of deeds, and such that are none but look alike.
func deedTexts() []string {
	list := []string{
		"", " ", "  ", "\n", "k", "key", "key ", "key  ", "key  9", "key 9 ", " key 9", "key\t9", "key9", "key,9", "key 09", "key 00", "key 0", "key 00009", "key +9", "key -0", "key -9", "key 9.0", "key 9,0", "key 0x9", "key 1e3", "key 1_0", "key 9 9", "key a", "Key 9", "KEY 9", "keys", "keys 9", "key 9999", "key 10000", "key 99999", "key 18446744073709551625", "key 4294967305", "key 9\n", "key 9\x00", "key \xc2\xb2", "key \xef\xbc\x99",
		"t", "talk", "talk ", "talk 0", "talk 0 ", "talk 0  ", "talk  0 8,4,1", "talk 0 8", "talk 0 8,4,1", "talk 0  8,4,1", "talk 0 8,4,1 ", " talk 0 8,4,1", "talk 00 8,4,1", "talk 01 8,4,1", "talk 10 8,4,1", "talk 9 8,4,1", "talk +0 8,4,1", "talk -0 8,4,1", "talk -1 8,4,1", "talk a 8,4,1", "talk 08,4,1", "talk 8,4,1", "talk\t0 8,4,1", "talk 0\t8,4,1", "talk 0 8,4,1\n", "talk 0 8,4,1\x7f", "talk 0 \x1f", "talk 0 ~", "talk 0  ~ ", "talk 0 talk 0 8,4,1", "talk 4294967296 8,4,1", "Talk 0 8,4,1", "talks 0 8,4,1", "talk 0 \xff", "talk 0 \u00e9", "talk 0 key 9", "talk 9 back",
		"b", "bac", "back", "back ", " back", "back 0", "back 1", "backs", "Back", "BACK", "back\n", "back\x00", "back back", "take", "group", "keys", "notes", "made 0 4 1", "leak 0", "what", "none", "ok", "no",
	}
	for _, s := range sequencesTried {
		for _, d := range some(s.deeds, 5) {
			if text := deedTextKnown(d); text != "" {
				list = append(list, text)
			}
		}
	}
	return list
}

func TestP89ReadTextsOfDeedsAreCanonical(t *testing.T) {
	check := func(s string) {
		t.Helper()
		wantDeed(t, s)
		if d, ok := impl.ReadDeed(s); ok {
			wantText(t, "DeedText of what was read", impl.DeedText(d), s, d)
		}
		if d, ok := impl.ReadDeed(s + "\n"); ok || d != (impl.Deed{}) {
			t.Errorf("ReadDeed(%.100q) = %v, %t, want the zero value, false", s+"\n", d, ok)
		}
	}
	for _, s := range slices.Concat(deedTexts(), textsOdd()) {
		check(s)
	}
	for _, s := range []string{"key 9", "key 0", "key 9999", "talk 0 8,4,1", "talk 9 ~", "talk 0  ", "back"} {
		for _, near := range textsAround(s) {
			check(near)
		}
	}
	long := 1 << 20
	for _, s := range []string{"key " + strings.Repeat("9", long), "key " + strings.Repeat("0", long) + "9", "talk 0 " + strings.Repeat("~", long), "talk 0 " + strings.Repeat(" ", long), "talk " + strings.Repeat("0", long) + " 8", strings.Repeat(" ", long), strings.Repeat("back", long), strings.Repeat("talk 0 ", long), "talk 0 " + strings.Repeat("~", long) + "\x7f"} {
		check(s)
	}
}

// TestReadDeedOfShortTexts tries all texts of a few bytes behind the words of deeds.
func TestReadDeedOfShortTexts(t *testing.T) {
	const bytes = "019+- ~\n\x7fk"
	tails := []string{""}
	for from := 0; len(tails[from]) < 4; from++ {
		for i := range len(bytes) {
			tails = append(tails, tails[from]+bytes[i:i+1])
		}
	}
	for _, tail := range tails {
		for _, word := range []string{"", "key", "key ", "key 99", "talk", "talk ", "talk 0", "talk 0 ", "back", "back "} {
			wantDeed(t, word+tail)
		}
	}
}

// writtenOf are the deeds of a sequence that have a text, and these texts.
func (s sequence) writtenOf() ([]impl.Deed, []string) {
	var deeds []impl.Deed
	var lines []string
	for _, d := range s.deeds {
		if text := deedTextKnown(d); text != "" {
			deeds, lines = append(deeds, d), append(lines, text)
		}
	}
	return deeds, lines
}

// joined is the text of lines that all end with a newline.
func joined(lines []string) string {
	var s string
	for _, line := range lines {
		s += line + "\n"
	}
	return s
}

func TestP90JournalsAreRead(t *testing.T) {
	for _, s := range sequencesTried {
		deeds, lines := s.writtenOf()
		text := impl.JournalText(deeds)
		wantText(t, "JournalText", text, joined(lines), deeds)
		wantJournal(t, text, deeds, len(text))
		if len(deeds) < len(s.deeds) {
			wantText(t, "JournalText with a deed that has no text", impl.JournalText(s.deeds), "", s.deeds)
		}
		for at := range 3 {
			wrong := slices.Insert(slices.Clone(deeds), at*len(deeds)/2, deedsWithoutText[(len(deeds)+at)%len(deedsWithoutText)])
			wantText(t, "JournalText with a deed that has no text", impl.JournalText(wrong), "", wrong)
		}
	}
	for _, d := range deedsWritten() {
		text := deedTextKnown(d)
		want := text + "\n"
		if text == "" {
			want = ""
		}
		wantText(t, "JournalText of one deed", impl.JournalText([]impl.Deed{d}), want, d)
	}
	wantText(t, "JournalText", impl.JournalText(nil), "")
	wantText(t, "JournalText", impl.JournalText([]impl.Deed{}), "")
	// A journal may have more lines than can be said at once.
	for _, many := range []int{40, 41, 5000} {
		deeds := slices.Repeat([]impl.Deed{{Kind: impl.BdKey, Number: 9}, {Kind: impl.BdBack}}, many)
		text := impl.JournalText(deeds)
		wantText(t, "JournalText of many deeds", text, strings.Repeat("key 9\nback\n", many), many)
		wantJournal(t, text, deeds, many*11)
	}
}

var deedsWithoutText = []impl.Deed{{Kind: 0, Number: 10000}, {Kind: 0, Number: -1}, {Kind: 0, Text: "9"}, {Kind: 1}, {Kind: 1, Number: 10, Text: "8"}, {Kind: 1, Number: -1, Text: "8"}, {Kind: 1, Text: "8\n"}, {Kind: 1, Text: "\x7f"}, {Kind: 2, Number: 1}, {Kind: 2, Text: "8"}, {Kind: 3}, {Kind: -1}}

func TestP49WhereverAJournalIsCutABoardOfBeforeIsFound(t *testing.T) {
	for _, s := range sequencesTried {
		deeds, lines := s.writtenOf()
		text, b := joined(lines), impl.BoardNew(s.g)
		boards := []impl.Board{b}
		for _, d := range deeds {
			b, _ = doneKnown(b, d)
			boards = append(boards, b)
		}
		whole, bytes := 0, 0 // how many lines end before the cut, and how many bytes they have
		for cut := range len(text) + 1 {
			if cut > 0 && text[cut-1] == '\n' {
				whole, bytes = whole+1, cut
			}
			wantJournal(t, text[:cut], deeds[:whole], bytes)
			got, read := impl.ReadJournal(text[:cut])
			wantText(t, "JournalText of what was read", impl.JournalText(got), text[:read], text[:cut])
			if cut == bytes {
				wantRun(t, impl.BoardNew(s.g), got, boards[whole], manyDone(impl.BoardNew(s.g), got...))
				said, _ := impl.BoardSay(impl.BoardNew(s.g), lines[:whole])
				wantBoard(t, "BoardSay of a journal", said, boards[whole], lines[:whole])
			}
		}
	}
}

// TestP49OfOtherJournals cuts journals between whose lines there are others: what stands behind the first of them is not read.
func TestP49OfOtherJournals(t *testing.T) {
	deeds := []impl.Deed{{Kind: 0, Number: 9}, {Kind: 1, Text: "8,4,1"}, {Kind: 1, Number: 9, Text: " ~"}, {Kind: 2}, {Kind: 0, Number: 10}}
	var lines []string
	for _, d := range deeds {
		lines = append(lines, deedTextKnown(d))
	}
	others := []string{"", " ", "\r", "key", "key 10000", "key 09", "key 9 ", "talk 0 ", "talk 10 8", "talk 0 \x7f", "talk 0 \x1f", "talk 0 8\r", "back ", " back", "back\r", "group", "keys", "notes", "made 0 4 1", "leak 0", "what", "\x00", "\xff"}
	for at := range len(lines) + 1 {
		for _, other := range others {
			text, whole := joined(slices.Insert(slices.Clone(lines), at, other)), 0
			for cut := range len(text) + 1 {
				if whole < at && cut == len(joined(lines[:whole+1])) {
					whole++
				}
				wantJournal(t, text[:cut], deeds[:whole], len(joined(lines[:whole])))
			}
		}
	}
}

func TestReadJournalByHand(t *testing.T) {
	key, talk, back := impl.Deed{Kind: impl.BdKey, Number: 9}, impl.Deed{Kind: impl.BdTalk, Text: "8,4,1"}, impl.Deed{Kind: impl.BdBack}
	wantJournal(t, "", nil, 0)
	wantJournal(t, "\n", nil, 0)
	wantJournal(t, "\n\n", nil, 0)
	wantJournal(t, "key 9", nil, 0)
	wantJournal(t, "key 9\n", []impl.Deed{key}, 6)
	wantJournal(t, "key 9\n\n", []impl.Deed{key}, 6)
	wantJournal(t, "\nkey 9\n", nil, 0)
	wantJournal(t, "key 9\n\nback\n", []impl.Deed{key}, 6)
	wantJournal(t, "key 9\nwhat\nback\n", []impl.Deed{key}, 6)
	wantJournal(t, "key 9\nback \nback\n", []impl.Deed{key}, 6)
	wantJournal(t, "key 9\r\nback\r\n", nil, 0)
	wantJournal(t, "key 9\ntalk 0 8,4,1\nback", []impl.Deed{key, talk}, 19)
	wantJournal(t, "key 9\ntalk 0 8,4,1\nback\n", []impl.Deed{key, talk, back}, 24)
	wantJournal(t, "back\nback\nback\nkey 9", []impl.Deed{back, back, back}, 15)
	wantJournal(t, "talk 0  \n", []impl.Deed{{Kind: impl.BdTalk, Text: " "}}, 9)
	wantJournal(t, "talk 0 \n", nil, 0)
	wantJournal(t, "talk 0 a\n8,4,1\n", []impl.Deed{{Kind: impl.BdTalk, Text: "a"}}, 9)
	wantJournal(t, strings.Repeat("\n", 1<<16), nil, 0)
	wantJournal(t, strings.Repeat("back", 1<<16), nil, 0)
	wantJournal(t, "back\n"+strings.Repeat("back", 1<<16)+"\n", []impl.Deed{back}, 5)
	for _, s := range textsOdd() {
		wantJournal(t, s, nil, 0)
		wantJournal(t, s+"\n", nil, 0)
		wantJournal(t, "key 9\n"+s+"\n", []impl.Deed{key}, 6)
	}
}

// numbersSaid are numbers as they may stand in lines, most of them such as are not written so.
var numbersSaid = []string{"0", "1", "2", "3", "4", "5", "9", "10", "11", "12", "22", "23", "00", "01", "012", "+1", "-1", "-0", "", "a", "1.", "0x1", "1_0", " 1", "1\n", "9999", "18446744073709551616", "18446744073709551617", "4294967296", "9223372036854775808", "-9223372036854775808"}

// linesTried are lines of all kinds: deeds, those that are asked, and others.
func linesTried() []string {
	list := slices.Concat(deedTexts(), []string{
		"group", "group ", " group", "Group", "groups", "group\n", "group 2", "gro", "keys ", " keys", "Keys", "keys 0", "keys\n", "notes ", " notes", "note", "Notes", "notes 1", "notes\n",
		"made", "made ", "made  ", "made 0", "made 0 ", "made 0 1", "made 0 1 ", "made 0 1  2", "made  0 1 2", "made 0  1 2", "made 0 1 2 ", " made 0 1 2", "made 0 1 2 0", "made 0 1 2 3 4", "made 0,1,2", "made 0 1,2", "made\t0 1 2", "made 0\t1 2", "made 0 1 2\n", "made 0 1 2\x00", "made0 1 2", "Made 0 1 2", "mades 0 1 2", "made 0 1 2.",
		"leak", "leak ", "leak  ", "leak  0", "leak 0 ", " leak 0", "leak 0 0", "leak 0 1 2", "leak\t0", "leak 0\n", "leak0", "Leak 0", "leaks 0", "leak 0,",
		"\t", "\x00", "\xff", "what ", "none", "5", "0", "8,4,1", "key 9\nback", "group keys", strings.Repeat(" ", 1<<16), strings.Repeat("made ", 1<<14), "made" + strings.Repeat(" 0", 1<<14), "leak " + strings.Repeat("0", 1<<16), "made 0 " + strings.Repeat("1", 1<<16) + " 1",
	})
	for _, n := range numbersSaid {
		list = append(list, "leak "+n, "made "+n+" 1 2", "made 0 "+n+" 2", "made 0 1 "+n, "made 1 0 "+n, "made 1 "+n+" 0")
	}
	for _, s := range []string{"made 0 1 2", "leak 0"} {
		list = append(list, textsAround(s)...)
	}
	return list
}

// boardsSaid are boards on which lines are tried: without notes, with one element, full ones, and some of the sequences.
func boardsSaid() []impl.Board {
	list := slices.Concat(some(smallBoards(0, 3), 30), some(fullBoards(), 12))
	for g := range groupsKnown {
		list = append(list, impl.BoardNew(g), impl.Board{Group: g, Notes: []impl.Note{keyNote(1)}})
	}
	for i, s := range sequencesTried {
		if i%7 == 0 {
			list = append(list, some(s.boards, 2)...)
		}
	}
	return list
}

func TestP91QuestionsChangeNothing(t *testing.T) {
	lines := linesTried()
	for _, b := range boardsSaid() {
		for _, line := range lines {
			after, answer := impl.BoardLine(b, line)
			wantBoardOk(t, after, true)
			if answer != "ok" {
				wantBoard(t, "the board after a line", after, b, line)
			}
			if answer == "" {
				t.Errorf("BoardLine(%v, %.100q) answers nothing", b, line)
			}
			want, wantAnswer := lineAnswered(b, line)
			wantLine(t, b, line, want, wantAnswer)
		}
		wantLine(t, b, "", b, "what")
		wantLine(t, b, " ", b, "what")
	}
}

// TestBoardLineOfAllNumbers asks for all talks that can be made up, and for all exponents, with numbers on both sides of what is right.
func TestBoardLineOfAllNumbers(t *testing.T) {
	for g, k := range groupsKnown {
		for i := range 3 {
			b := sequencesTried[g*60+i].boards[20]
			for on := -1; on <= len(keysKnown(b)); on++ {
				line := fmt.Sprint("leak ", on)
				want, wantAnswer := lineAnswered(b, line)
				wantLine(t, b, line, want, wantAnswer)
				for ask := -1; ask <= k.order; ask++ {
					for tell := -1; tell <= k.order; tell++ {
						line := fmt.Sprint("made ", on, " ", ask, " ", tell)
						want, wantAnswer := lineAnswered(b, line)
						wantLine(t, b, line, want, wantAnswer)
					}
				}
			}
		}
	}
}

// TestBoardLineOfManyElements has more elements on a board than a line with one digit could tell: they are asked for, but no line puts a talk on them.
func TestBoardLineOfManyElements(t *testing.T) {
	k := groupsKnown[3]
	b := impl.Board{Group: 3}
	for _, key := range k.elements[1:12] {
		b.Notes = append(b.Notes, keyNote(key))
	}
	eleventh := k.elements[11]
	talk := rightTalk(3, eleventh, 1, 0)
	wantLine(t, b, "keys", b, "11")
	wantLine(t, b, "leak 10", b, "none")
	wantLine(t, b, "leak 11", b, "what")
	wantLine(t, b, "made 10 0 0", b, "1,0,0")
	wantLine(t, b, "made 11 0 0", b, "what")
	wantLine(t, b, "talk 10 "+textOf(talk), b, "what")
	wantLine(t, b, "talk 9 1,0,0", withNote(b, 11, talkNote(9, 1, 0, 0)), "ok")
	wantDone(t, b, impl.Deed{Kind: impl.BdTalk, Number: 10, Text: "1,0,0"}, withNote(b, 11, talkNote(10, 1, 0, 0)), true)
	wantDone(t, b, impl.Deed{Kind: impl.BdTalk, Number: 11, Text: "1,0,0"}, b, false)
	wantLine(t, withNote(b, 11, talkNote(10, 1, 0, 0)), "notes", withNote(b, 11, talkNote(10, 1, 0, 0)), "12")
}

func TestBoardLineByHand(t *testing.T) {
	b := impl.Board{Group: 2}
	say := func(line string, want string, notes ...impl.Note) {
		t.Helper()
		after := impl.Board{Group: 2, Notes: notes}
		wantLine(t, b, line, after, want)
		b = after
	}
	nine, talk, other := keyNote(9), talkNote(0, 8, 4, 1), talkNote(0, 8, 6, 0)
	say("back", "no")
	say("leak 0", "what")
	say("made 0 1 2", "what")
	say("keys", "0")
	say("notes", "0")
	say("talk 0 8,4,1", "no")
	say("key 5", "no")
	say("key 0", "no")
	say("key 09", "what")
	say("key 9999", "no")
	say("key 10000", "what")
	say("key 9", "ok", nine)
	say("key 9", "no", nine)
	say("made 0 4 1", "8,4,1", nine)
	say("made 0 0 0", "1,0,0", nine)
	say("made 0 10 10", "16,10,10", nine)
	say("made 0 11 0", "what", nine)
	say("made 0 0 11", "what", nine)
	say("made 1 0 0", "what", nine)
	say("made 0 04 1", "what", nine)
	say("made 0 +4 1", "what", nine)
	say("made 0 4", "what", nine)
	say("made 0 4 1 1", "what", nine)
	say("made 0  4 1", "what", nine)
	say("made 0 4 1 ", "what", nine)
	say("leak 0", "none", nine)
	say("leak 00", "what", nine)
	say("leak 1", "what", nine)
	say("leak -1", "what", nine)
	say("leak", "what", nine)
	say("talk 0 8,4,2", "no", nine)
	say("talk 0 8", "no", nine)
	say("talk 0  8,4,1", "no", nine)
	say("talk 0 ", "what", nine)
	say("talk 1 8,4,1", "no", nine)
	say("talk 10 8,4,1", "what", nine)
	say("talk 0 8,4,1", "ok", nine, talk)
	say("talk 0 8,4,1", "no", nine, talk)
	say("talk 0 8,6,0", "ok", nine, talk, other)
	say("leak 0", "5", nine, talk, other)
	say("group", "23,11,2", nine, talk, other)
	say("keys", "1", nine, talk, other)
	say("notes", "3", nine, talk, other)
	say("back ", "what", nine, talk, other)
	say("", "what", nine, talk, other)
	say(" ", "what", nine, talk, other)
	say("back", "ok", nine, talk)
	say("leak 0", "none", nine, talk)
	for g, k := range groupsKnown {
		wantLine(t, impl.BoardNew(g), "group", impl.BoardNew(g), []string{"7,3,2", "11,5,3", "23,11,2", "47,23,2"}[g])
		wantLine(t, impl.BoardNew(g), fmt.Sprint("key ", k.prime), impl.BoardNew(g), "no")
	}
}

// linesOf are MaxLines lines on the board of a group without notes: the deeds of a sequence that have a text, and between them such as are asked, and others.
func (s sequence) linesOf(d *dice) []string {
	_, texts := s.writtenOf()
	others := []string{"group", "keys", "notes", "leak 0", "leak 1", "leak 2", "made 0 1 2", "made 1 1 2", "made 0 2 0", "made 9 0 0", "leak 9", "what", "", " ", "back "}
	var lines []string
	for len(lines) < 40 {
		if len(texts) > 0 && d.upTo(3) > 0 {
			lines, texts = append(lines, texts[0]), texts[1:]
		} else {
			lines = append(lines, others[d.upTo(len(others))])
		}
	}
	return lines
}

// saidKnown are the boards and the answers after each of some lines.
func saidKnown(b impl.Board, lines []string) ([]impl.Board, []string) {
	boards := []impl.Board{b}
	var answers []string
	for _, line := range lines {
		after, answer := lineAnswered(boards[len(boards)-1], line)
		boards, answers = append(boards, after), append(answers, answer)
	}
	return boards, answers
}

func TestP50WhateverIsSaidTalksThatAreMadeUpAreRight(t *testing.T) {
	d := dice(11)
	for _, s := range sequencesTried {
		lines := s.linesOf(&d)
		boards, answers := saidKnown(impl.BoardNew(s.g), lines)
		whole, all := impl.BoardSay(impl.BoardNew(s.g), lines)
		wantBoard(t, "BoardSay", whole, boards[40], lines)
		wantTexts(t, "the answers", all, answers, lines)
		if slices.Contains(all, "") {
			t.Errorf("an answer to %q is empty: %q", lines, all)
		}
		for cut := range len(lines) + 1 {
			first, before := impl.BoardSay(impl.BoardNew(s.g), lines[:cut])
			wantBoard(t, "BoardSay of the first lines", first, boards[cut], lines[:cut])
			second, behind := impl.BoardSay(first, lines[cut:])
			wantBoard(t, "BoardSay in two parts", second, whole, lines, cut)
			wantTexts(t, "the answers of two parts", slices.Concat(before, behind), all, lines, cut)
			wantMadeRight(t, first)
		}
	}
}

// wantMadeRight asks a board for talks on all its elements.
func wantMadeRight(t *testing.T, b impl.Board) {
	t.Helper()
	for on, key := range impl.KeysOn(b) {
		after, answers := impl.BoardSay(b, []string{fmt.Sprint("made ", on, " 1 2")})
		wantBoard(t, "the board that is asked", after, b)
		talk, ok := impl.ReadTalk(b.Group, answers[0])
		if !ok || talk.Ask != 1 || talk.Tell != 2 || !impl.TalkOk(b.Group, key, talk) || !rightKnown(b.Group, key, talk) {
			t.Errorf("on the element %d of %v the talk %q is made up", on, b, answers[0])
		}
	}
}

func TestP50OfAllSmallBoards(t *testing.T) {
	for _, b := range append(smallBoards(0, 3), fullBoards()...) {
		wantMadeRight(t, b)
	}
}

// TestBoardSayExample holds the document's example line by line.
func TestBoardSayExample(t *testing.T) {
	lines := []string{"group", "key 9", "talk 0 8,4,1", "leak 0", "talk 0 8,6,0", "leak 0", "talk 0 8,4,2", "made 0 4 1", "key 5", "notes", "back", "leak 0"}
	answers := []string{"23,11,2", "ok", "ok", "none", "ok", "5", "no", "8,4,1", "no", "3", "ok", "none"}
	wantSay(t, impl.BoardNew(2), lines, impl.Board{Group: 2, Notes: []impl.Note{keyNote(9), talkNote(0, 8, 4, 1)}}, answers)
	b := impl.BoardNew(2)
	for i, line := range lines {
		after, answer := impl.BoardLine(b, line)
		wantText(t, "BoardLine", answer, answers[i], line)
		b = after
	}
}

func TestBoardSayOfManyLines(t *testing.T) {
	for g, k := range groupsKnown {
		b := impl.Board{Group: g, Notes: []impl.Note{keyNote(1)}}
		wantSay(t, b, nil, b, nil)
		wantSay(t, b, []string{}, b, nil)
		for _, pair := range [][]string{{fmt.Sprint("key ", k.base), "back"}, {"", " "}, {"leak 0", "made 0 1 2"}, {"back", "keys"}} {
			most := slices.Repeat(pair, 20)
			boards, answers := saidKnown(b, most)
			wantSay(t, b, most, boards[40], answers)
			for _, more := range []int{1, 2, 40, 1 << 16} {
				wantSay(t, b, slices.Concat(most, slices.Repeat([]string{"notes"}, more)), impl.Board{}, nil)
				wantSay(t, b, slices.Concat(most, slices.Repeat([]string{""}, more)), impl.Board{}, nil)
			}
		}
	}
}

// TestBoardsOfOddArguments calls everything with boards, deeds and texts that do not belong together, and holds it against what is known.
func TestBoardsOfOddArguments(t *testing.T) {
	notes := []impl.Note{{}, keyNote(1), keyNote(2), keyNote(3), keyNote(9), talkNote(0, 1, 0, 0), talkNote(0, 8, 4, 1), talkNote(1, 1, 0, 0), {Key: math.MaxInt, On: math.MinInt, Spoken: impl.Talk{Say: math.MinInt, Ask: math.MaxInt, Tell: -1}}}
	d := dice(3)
	for range 3000 {
		b := impl.Board{Group: d.upTo(6) - 1}
		for range d.upTo(5) {
			b.Notes = append(b.Notes, notes[d.upTo(len(notes))])
		}
		is := boardKnown(b)
		wantBoardOk(t, b, is)
		deeds := deedsAny(max(0, min(b.Group, 3)))
		for range 5 {
			deed, line := deeds[d.upTo(len(deeds))], []string{"back", "key 3", "talk 0 8,4,1", "made 1 2 2", "leak 0", "", "keys"}[d.upTo(7)]
			if !is {
				wantDone(t, b, deed, impl.Board{}, false)
				wantRun(t, b, []impl.Deed{deed}, impl.Board{}, 0)
				wantLine(t, b, line, impl.Board{}, "")
				wantSay(t, b, []string{line}, impl.Board{}, nil)
				wantLeak(t, b, d.upTo(3)-1, -1, false)
				continue
			}
			after, ok := doneKnown(b, deed)
			wantDone(t, b, deed, after, ok)
			wantRun(t, b, []impl.Deed{deed, {Kind: 2}, deed}, afterAll(b, deed, impl.Deed{Kind: 2}, deed), manyDone(b, deed, impl.Deed{Kind: 2}, deed))
			said, answer := lineAnswered(b, line)
			wantLine(t, b, line, said, answer)
			wantSay(t, b, []string{line}, said, []string{answer})
			on := d.upTo(3) - 1
			secret, told := leakKnown(b, on)
			wantLeak(t, b, on, secret, told)
		}
	}
}

func afterAll(b impl.Board, deeds ...impl.Deed) impl.Board {
	for _, d := range deeds {
		b, _ = doneKnown(b, d)
	}
	return b
}

func manyDone(b impl.Board, deeds ...impl.Deed) int {
	many := 0
	for _, d := range deeds {
		after, ok := doneKnown(b, d)
		if b = after; ok {
			many++
		}
	}
	return many
}

// roomOf is a copy of a list with room behind it, which holds something that shows whether it was written to.
func roomOf[T any](list []T, mark T) []T {
	room := append(slices.Clone(list), slices.Repeat([]T{mark}, 8)...)
	return room[:len(list)]
}

// wantRoomKept holds a list made by roomOf against what it was.
func wantRoomKept[T comparable](t *testing.T, what string, list []T, was []T, mark T) {
	t.Helper()
	if room := list[:len(was)+8]; !slices.Equal(room, append(slices.Clone(was), slices.Repeat([]T{mark}, 8)...)) {
		t.Errorf("%s was written to: it is %v, and was %v", what, room, was)
	}
}

// spoilAll writes over a list and all the room behind it.
func spoilAll[T any](list []T, mark T) {
	list = list[:cap(list)]
	for i := range list {
		list[i] = mark
	}
}

var (
	noteMark = impl.Note{Key: -9, On: -9}
	deedMark = impl.Deed{Kind: -9}
)

// TestBoardsAreNewMemory writes over all results, and then looks at the arguments, at the other results, and at the same results once more.
func TestBoardsAreNewMemory(t *testing.T) {
	for i, s := range sequencesTried {
		at := (i * 7) % 40
		was, d := s.boards[at], s.deeds[at]
		b := impl.Board{Group: s.g, Notes: roomOf(was.Notes, noteMark)}
		deeds, lines := roomOf(s.deeds, deedMark), roomOf([]string{"notes", "back", "back", "key 1", "leak 0", "what", ""}, "mark")
		run := afterAll(was, s.deeds...)
		boards, answers := saidKnown(was, lines)
		written, texts := s.writtenOf()
		for range 2 {
			var results [][]impl.Note
			for _, deed := range []impl.Deed{d, {Kind: 2}, {Kind: 0, Number: 1}, {Kind: 3}, {Kind: 0, Number: 5}} {
				got, _ := impl.BoardDo(b, deed)
				wantBoard(t, "BoardDo after results were written over", got, afterAll(was, deed), deed)
				results = append(results, got.Notes)
			}
			for _, line := range []string{"notes", "back", "key 1", "key 0", "what"} {
				got, _ := impl.BoardLine(b, line)
				want, _ := lineAnswered(was, line)
				wantBoard(t, "BoardLine after results were written over", got, want, line)
				results = append(results, got.Notes)
			}
			for many, want := range map[int]impl.Board{0: was, 40: run} {
				got, _ := impl.BoardRun(b, deeds[:many])
				wantBoard(t, "BoardRun after results were written over", got, want, many)
				results = append(results, got.Notes)
			}
			for many := range len(lines) + 1 {
				got, said := impl.BoardSay(b, lines[:many])
				wantBoard(t, "BoardSay after results were written over", got, boards[many], many)
				wantTexts(t, "the answers after results were written over", said, answers[:many], many)
				results = append(results, got.Notes)
				spoilAll(said, "spoilt")
			}
			keys := impl.KeysOn(b)
			wantList(t, "KeysOn after results were written over", keys, keysKnown(was))
			spoil(keys)
			impl.BoardOk(b)
			impl.LeakOf(b, 0)
			impl.JournalText(deeds)
			read, _ := impl.ReadJournal(joined(texts))
			if !sameDeeds(read, written) {
				t.Errorf("ReadJournal after results were written over = %v, want %v", read, written)
			}
			spoilAll(read, deedMark)
			spoilApart(t, results)
			wantRoomKept(t, "the notes", b.Notes, was.Notes, noteMark)
			wantRoomKept(t, "the deeds", deeds, s.deeds, deedMark)
			wantRoomKept(t, "the lines", lines, []string{"notes", "back", "back", "key 1", "leak 0", "what", ""}, "mark")
		}
	}
}

// spoilApart writes over results one by one, and looks whether one of the others changes with it.
func spoilApart(t *testing.T, results [][]impl.Note) {
	t.Helper()
	for i, notes := range results {
		var others [][]impl.Note
		for _, other := range results[i+1:] {
			others = append(others, slices.Clone(other))
		}
		spoilAll(notes, impl.Note{Key: -7, On: -7})
		for j, other := range results[i+1:] {
			if !slices.Equal(other, others[j]) {
				t.Errorf("the results %d and %d share notes", i, i+1+j)
			}
		}
	}
}

// TestOtherBoardsAreNotWritten calls everything with what is no board, and with lists that are too long.
func TestOtherBoardsAreNotWritten(t *testing.T) {
	call := func(b impl.Board, deeds []impl.Deed, lines []string) {
		t.Helper()
		room := impl.Board{Group: b.Group, Notes: roomOf(b.Notes, noteMark)}
		roomDeeds, roomLines := roomOf(deeds, deedMark), roomOf(lines, "mark")
		impl.BoardOk(room)
		impl.KeysOn(room)
		impl.LeakOf(room, 0)
		for i, d := range deeds {
			impl.BoardDo(room, d)
			impl.BoardLine(room, lines[i])
		}
		impl.BoardRun(room, roomDeeds)
		impl.BoardSay(room, roomLines)
		impl.JournalText(roomDeeds)
		wantRoomKept(t, "the notes", room.Notes, b.Notes, noteMark)
		wantRoomKept(t, "the deeds", roomDeeds, deeds, deedMark)
		wantRoomKept(t, "the lines", roomLines, lines, "mark")
	}
	deeds := []impl.Deed{{Kind: 2}, {Kind: 0, Number: 4}, {Kind: 1, Text: "1,0,0"}, {Kind: 3}}
	lines := []string{"back", "key 4", "talk 0 1,0,0", "what"}
	for _, b := range some(boardsWrong(), 3000) {
		call(b, deeds, lines)
	}
	for g := range groupsKnown {
		call(impl.Board{Group: g, Notes: []impl.Note{keyNote(2), keyNote(1)}}, slices.Repeat(deeds, 11), slices.Repeat(lines, 11))
	}
}

// TestBoardsAtOnce makes the same calls from some goroutines at a time: nothing is kept between calls that one could spoil for another.
func TestBoardsAtOnce(t *testing.T) {
	var callers sync.WaitGroup
	for i := range 8 {
		callers.Add(1)
		go func() {
			defer callers.Done()
			d := dice(i)
			for n := range 40 {
				s := sequencesTried[(i*31+n*7)%len(sequencesTried)]
				lines := s.linesOf(&d)
				boards, answers := saidKnown(impl.BoardNew(s.g), lines)
				wantSay(t, impl.BoardNew(s.g), lines, boards[40], answers)
				wantRun(t, impl.BoardNew(s.g), s.deeds, s.boards[40], s.doneMany(0, 40))
				deeds, texts := s.writtenOf()
				wantJournal(t, joined(texts), deeds, len(joined(texts)))
			}
		}()
	}
	callers.Wait()
}
