package tests

import (
	"fmt"
	"math"
	"slices"
	"strings"
	"testing"

	"loop.example/sigmaproofs/impl"
)

// logsKnown tells for each element of a group its exponent by the base.
func logsKnown(k groupKnown) map[int]int {
	logs := map[int]int{}
	for n := range k.order {
		logs[powerKnown(k, k.base, n)] = n
	}
	return logs
}

// talksOfGroup are all talks whose numbers are an element and two exponents of a group.
func talksOfGroup(k groupKnown) []impl.Talk {
	var list []impl.Talk
	for _, say := range k.elements {
		for ask := range k.order {
			for tell := range k.order {
				list = append(list, impl.Talk{Say: say, Ask: ask, Tell: tell})
			}
		}
	}
	return list
}

// talksWrong are talks of which one number is none of a group, the other two being right together with the element 1.
func talksWrong(k groupKnown) []impl.Talk {
	var list []impl.Talk
	for _, a := range elementsWrong(k) {
		list = append(list, impl.Talk{Say: a})
	}
	for _, n := range exponentsWrong(k) {
		list = append(list, impl.Talk{Say: 1, Ask: n}, impl.Talk{Say: 1, Tell: n}, impl.Talk{Say: 1, Ask: n, Tell: n})
	}
	return append(list, impl.Talk{}, impl.Talk{Say: -1, Ask: -1, Tell: -1}, impl.Talk{Say: math.MaxInt, Ask: math.MinInt, Tell: math.MaxInt})
}

func wantTalk(t *testing.T, what string, got impl.Talk, ok bool, want impl.Talk, wantOk bool, args ...int) {
	t.Helper()
	if got != want || ok != wantOk {
		t.Errorf("%s%v = %v, %t, want %v, %t", what, args, got, ok, want, wantOk)
	}
}

func wantNoTalk(t *testing.T, what string, got impl.Talk, ok bool, args ...int) {
	t.Helper()
	wantTalk(t, what, got, ok, impl.Talk{}, false, args...)
}

func TestP58KeysHaveOneExponent(t *testing.T) {
	for g := range impl.GroupsMany {
		for secret := range impl.GroupOrder(g) {
			key := impl.KeyOf(g, secret)
			wantNumber(t, "LogOf the key", impl.LogOf(g, impl.GroupBase(g), key), secret, g, secret)
		}
	}
}

func TestKeyOf(t *testing.T) {
	for g, k := range groupsKnown {
		wantNumber(t, "KeyOf", impl.KeyOf(g, 0), 1, g, 0)
		wantNumber(t, "KeyOf", impl.KeyOf(g, 1), k.base, g, 1)
		for secret := range k.order {
			wantNumber(t, "KeyOf", impl.KeyOf(g, secret), powerKnown(k, k.base, secret), g, secret)
		}
		for _, secret := range exponentsWrong(k) {
			wantNumber(t, "KeyOf", impl.KeyOf(g, secret), -1, g, secret)
		}
	}
	for _, g := range groupsWrong() {
		for _, secret := range append([]int{-1, 0, 1}, numbersFarOff...) {
			wantNumber(t, "KeyOf", impl.KeyOf(g, secret), -1, g, secret)
		}
	}
}

func TestP4TrueTalksAreRight(t *testing.T) {
	for g := range impl.GroupsMany {
		order := impl.GroupOrder(g)
		for secret := range order {
			key := impl.KeyOf(g, secret)
			for further := range order {
				for ask := range order {
					talk, ok := impl.TalkOf(g, secret, further, ask)
					if !ok || !impl.TalkOk(g, key, talk) {
						t.Errorf("TalkOf(%d, %d, %d, %d) = %v, %t, which is not right for %d", g, secret, further, ask, talk, ok, key)
					}
				}
			}
		}
	}
}

func TestTalkOf(t *testing.T) {
	for g, k := range groupsKnown {
		for secret := range k.order {
			for further := range k.order {
				for ask := range k.order {
					got, ok := impl.TalkOf(g, secret, further, ask)
					want := impl.Talk{Say: powerKnown(k, k.base, further), Ask: ask, Tell: (further + ask*secret) % k.order}
					wantTalk(t, "TalkOf", got, ok, want, true, g, secret, further, ask)
				}
			}
		}
	}
}

func TestTalkOfZeros(t *testing.T) {
	for g, k := range groupsKnown {
		last := k.order - 1
		got, ok := impl.TalkOf(g, 0, 0, 0)
		wantTalk(t, "TalkOf", got, ok, impl.Talk{Say: 1}, true, g, 0, 0, 0)
		got, ok = impl.TalkOf(g, last, 1, 0)
		wantTalk(t, "TalkOf with the question 0", got, ok, impl.Talk{Say: k.base, Tell: 1}, true, g, last, 1, 0)
		got, ok = impl.TalkOf(g, 0, 1, last)
		wantTalk(t, "TalkOf with the exponent 0", got, ok, impl.Talk{Say: k.base, Ask: last, Tell: 1}, true, g, 0, 1, last)
		got, ok = impl.TalkOf(g, 1, 0, last)
		wantTalk(t, "TalkOf with the further exponent 0", got, ok, impl.Talk{Say: 1, Ask: last, Tell: last}, true, g, 1, 0, last)
	}
}

func TestTalkOfOthers(t *testing.T) {
	for g, k := range groupsKnown {
		for _, n := range exponentsWrong(k) {
			for _, args := range [][3]int{{n, 0, 0}, {0, n, 0}, {0, 0, n}, {n, 1, 1}, {1, n, 1}, {1, 1, n}, {n, n, n}} {
				got, ok := impl.TalkOf(g, args[0], args[1], args[2])
				wantNoTalk(t, "TalkOf", got, ok, g, args[0], args[1], args[2])
			}
		}
	}
	for _, g := range groupsWrong() {
		got, ok := impl.TalkOf(g, 0, 0, 0)
		wantNoTalk(t, "TalkOf", got, ok, g, 0, 0, 0)
		got, ok = impl.TalkOf(g, math.MaxInt, math.MinInt, -1)
		wantNoTalk(t, "TalkOf", got, ok, g, math.MaxInt, math.MinInt, -1)
	}
}

func TestP5EveryRightTalkIsATrueOne(t *testing.T) {
	for g, k := range groupsKnown {
		base := impl.GroupBase(g)
		for _, key := range k.elements {
			secret := impl.LogOf(g, base, key)
			for _, talk := range talksOfGroup(k) {
				known, _ := impl.TalkOf(g, secret, impl.LogOf(g, base, talk.Say), talk.Ask)
				if got := impl.TalkOk(g, key, talk); got != (talk == known) {
					t.Errorf("TalkOk(%d, %d, %v) = %t, and the true talk is %v", g, key, talk, got, known)
				}
			}
		}
	}
}

// TestTalkOk holds each talk against the equation, with powers that were multiplied one by one.
func TestTalkOk(t *testing.T) {
	for g, k := range groupsKnown {
		for _, key := range k.elements {
			var keyPowers, basePowers []int
			for n := range k.order {
				keyPowers = append(keyPowers, powerKnown(k, key, n))
				basePowers = append(basePowers, powerKnown(k, k.base, n))
			}
			for _, talk := range talksOfGroup(k) {
				want := basePowers[talk.Tell] == talk.Say*keyPowers[talk.Ask]%k.prime
				if got := impl.TalkOk(g, key, talk); got != want {
					t.Errorf("TalkOk(%d, %d, %v) = %t, want %t", g, key, talk, got, want)
				}
			}
		}
	}
}

func TestTalkOkWithZeros(t *testing.T) {
	for g, k := range groupsKnown {
		for _, key := range k.elements {
			for ask := range k.order {
				right := key == 1 || ask == 0
				wantBool(t, "TalkOk of 1 and the answer 0", impl.TalkOk(g, key, impl.Talk{Say: 1, Ask: ask}), right, g, key, ask)
			}
			wantBool(t, "TalkOk of the base and the answer 1", impl.TalkOk(g, key, impl.Talk{Say: k.base, Tell: 1}), true, g, key)
			wantBool(t, "TalkOk of the base and the answer 0", impl.TalkOk(g, key, impl.Talk{Say: k.base}), false, g, key)
		}
	}
}

func TestTalkOkOthers(t *testing.T) {
	for g, k := range groupsKnown {
		for _, talk := range talksWrong(k) {
			for _, key := range k.elements {
				wantBool(t, fmt.Sprint("TalkOk of ", talk), impl.TalkOk(g, key, talk), false, g, key)
			}
		}
		for _, key := range elementsWrong(k) {
			for _, talk := range append(talksWrong(k), impl.Talk{Say: 1}, impl.Talk{Say: k.base, Tell: 1}, impl.Talk{Say: 1, Ask: 1}) {
				wantBool(t, fmt.Sprint("TalkOk of ", talk), impl.TalkOk(g, key, talk), false, g, key)
			}
		}
	}
	for _, g := range groupsWrong() {
		for _, talk := range []impl.Talk{{}, {Say: 1}, {Say: -1, Ask: -1, Tell: -1}, {Say: math.MaxInt, Ask: math.MinInt, Tell: math.MaxInt}} {
			wantBool(t, fmt.Sprint("TalkOk of ", talk), impl.TalkOk(g, 1, talk), false, g, 1)
			wantBool(t, fmt.Sprint("TalkOk of ", talk), impl.TalkOk(g, -1, talk), false, g, -1)
		}
	}
}

func TestP6TalksThatAreMadeUpAreRight(t *testing.T) {
	for g, k := range groupsKnown {
		for _, key := range k.elements {
			for ask := range k.order {
				for tell := range k.order {
					made, ok := impl.MadeUp(g, key, ask, tell)
					if !ok || made.Ask != ask || made.Tell != tell || !impl.TalkOk(g, key, made) {
						t.Errorf("MadeUp(%d, %d, %d, %d) = %v, %t", g, key, ask, tell, made, ok)
					}
					for _, say := range k.elements {
						right := impl.TalkOk(g, key, impl.Talk{Say: say, Ask: ask, Tell: tell})
						wantBool(t, "TalkOk of Say beside the one made up", right, say == made.Say, g, key, say, ask, tell)
					}
				}
			}
		}
	}
}

func TestMadeUp(t *testing.T) {
	for g, k := range groupsKnown {
		logs := logsKnown(k)
		for _, key := range k.elements {
			got, ok := impl.MadeUp(g, key, 0, 0)
			wantTalk(t, "MadeUp", got, ok, impl.Talk{Say: 1}, true, g, key, 0, 0)
			for ask := range k.order {
				for tell := range k.order {
					got, ok := impl.MadeUp(g, key, ask, tell)
					say := powerKnown(k, k.base, tell+k.order*k.order-ask*logs[key])
					wantTalk(t, "MadeUp", got, ok, impl.Talk{Say: say, Ask: ask, Tell: tell}, true, g, key, ask, tell)
				}
			}
		}
	}
}

func TestMadeUpOthers(t *testing.T) {
	for g, k := range groupsKnown {
		for _, n := range exponentsWrong(k) {
			for _, key := range k.elements {
				for _, args := range [][2]int{{n, 0}, {0, n}, {n, 1}, {1, n}, {n, n}} {
					got, ok := impl.MadeUp(g, key, args[0], args[1])
					wantNoTalk(t, "MadeUp", got, ok, g, key, args[0], args[1])
				}
			}
		}
		for _, key := range elementsWrong(k) {
			for _, args := range [][2]int{{0, 0}, {1, 1}, {-1, -1}, {k.order, 0}, {math.MaxInt, math.MinInt}} {
				got, ok := impl.MadeUp(g, key, args[0], args[1])
				wantNoTalk(t, "MadeUp", got, ok, g, key, args[0], args[1])
			}
		}
	}
	for _, g := range groupsWrong() {
		got, ok := impl.MadeUp(g, 1, 0, 0)
		wantNoTalk(t, "MadeUp", got, ok, g, 1, 0, 0)
		got, ok = impl.MadeUp(g, math.MaxInt, math.MinInt, -1)
		wantNoTalk(t, "MadeUp", got, ok, g, math.MaxInt, math.MinInt, -1)
	}
}

// rightTalks are the talks on an element with one Say, in the order of their questions: one for each.
func rightTalks(k groupKnown, secret int, say int) []impl.Talk {
	var list []impl.Talk
	further := logsKnown(k)[say]
	for ask := range k.order {
		list = append(list, impl.Talk{Say: say, Ask: ask, Tell: (further + ask*secret) % k.order})
	}
	return list
}

func TestP7TwoAnswersTellTheExponent(t *testing.T) {
	for g, k := range groupsKnown {
		for secret := range k.order {
			key := powerKnown(k, k.base, secret)
			for _, say := range k.elements {
				list := rightTalks(k, secret, say)
				for i, a := range list {
					for j, b := range list {
						got, ok := impl.SecretFrom(g, key, a, b)
						switch {
						case i == j && (got != -1 || ok):
							t.Errorf("SecretFrom(%d, %d, %v, %v) = %d, %t with one question twice", g, key, a, b, got, ok)
						case i != j && (got != secret || !ok || impl.KeyOf(g, got) != key):
							t.Errorf("SecretFrom(%d, %d, %v, %v) = %d, %t, want %d", g, key, a, b, got, ok, secret)
						}
					}
				}
			}
		}
	}
}

func TestP7FromTheProgramsOwnTalks(t *testing.T) {
	for g := range impl.GroupsMany {
		order := impl.GroupOrder(g)
		for secret := range order {
			key := impl.KeyOf(g, secret)
			for further := range order {
				first, _ := impl.TalkOf(g, secret, further, 0)
				for ask := 1; ask < order; ask++ {
					other, _ := impl.TalkOf(g, secret, further, ask)
					got, ok := impl.SecretFrom(g, key, first, other)
					if !ok || got != secret {
						t.Errorf("SecretFrom(%d, %d, %v, %v) = %d, %t, want %d", g, key, first, other, got, ok, secret)
					}
				}
			}
		}
	}
}

func wantNoSecret(t *testing.T, g int, key int, a impl.Talk, b impl.Talk) {
	t.Helper()
	if got, ok := impl.SecretFrom(g, key, a, b); got != -1 || ok {
		t.Errorf("SecretFrom(%d, %d, %v, %v) = %d, %t, want -1, false", g, key, a, b, got, ok)
	}
	if got, ok := impl.SecretFrom(g, key, b, a); got != -1 || ok {
		t.Errorf("SecretFrom(%d, %d, %v, %v) = %d, %t, want -1, false", g, key, b, a, got, ok)
	}
}

func TestSecretFromTalksThatDoNotBelongTogether(t *testing.T) {
	for g, k := range groupsKnown {
		for secret := range k.order {
			key := powerKnown(k, k.base, secret)
			for i, say := range k.elements {
				list := rightTalks(k, secret, say)
				other := rightTalks(k, secret, k.elements[(i+1)%k.order])
				for ask, a := range list {
					next := (ask + 1) % k.order
					wrong := list[next]
					wrong.Tell = (wrong.Tell + 1) % k.order
					twice := a
					twice.Tell = (a.Tell + 1) % k.order
					wantNoSecret(t, g, key, a, other[ask])
					wantNoSecret(t, g, key, a, other[next])
					wantNoSecret(t, g, key, a, wrong)
					wantNoSecret(t, g, key, a, twice)
					wantNoSecret(t, g, key, twice, wrong)
				}
			}
		}
	}
}

func TestSecretFromOthers(t *testing.T) {
	for g, k := range groupsKnown {
		one, other := impl.Talk{Say: 1}, impl.Talk{Say: 1, Ask: 1}
		if got, ok := impl.SecretFrom(g, 1, one, other); got != 0 || !ok {
			t.Errorf("SecretFrom(%d, 1, %v, %v) = %d, %t, want 0, true", g, one, other, got, ok)
		}
		for _, key := range k.elements[1:] {
			wantNoSecret(t, g, key, one, other)
		}
		for _, key := range elementsWrong(k) {
			wantNoSecret(t, g, key, one, other)
			wantNoSecret(t, g, key, impl.Talk{}, impl.Talk{Ask: 1})
		}
		for _, wrong := range talksWrong(k) {
			wantNoSecret(t, g, 1, one, wrong)
			wantNoSecret(t, g, 1, other, wrong)
			wantNoSecret(t, g, 1, wrong, wrong)
		}
	}
	for _, g := range groupsWrong() {
		wantNoSecret(t, g, 1, impl.Talk{Say: 1}, impl.Talk{Say: 1, Ask: 1})
		wantNoSecret(t, g, -1, impl.Talk{Say: -1}, impl.Talk{Say: -1, Ask: 1})
	}
}

func TestP8TrueTalksTellNothing(t *testing.T) {
	for g := range impl.GroupsMany {
		for secret := range impl.GroupOrder(g) {
			for ask := range impl.GroupOrder(g) {
				known, made := impl.TalksTrue(g, secret, ask), impl.TalksMade(g, impl.KeyOf(g, secret), ask)
				if len(known) != impl.GroupOrder(g) || !slices.Equal(known, made) {
					t.Errorf("TalksTrue(%d, %d, %d) = %v, and made up are %v", g, secret, ask, known, made)
				}
			}
		}
	}
}

func TestP59EveryElementIsSaidOnce(t *testing.T) {
	for g := range impl.GroupsMany {
		for _, key := range impl.ElementsOf(g) {
			for ask := range impl.GroupOrder(g) {
				var says []int
				for _, talk := range impl.TalksMade(g, key, ask) {
					says = append(says, talk.Say)
					wantBool(t, "TalkOk", impl.TalkOk(g, key, talk), true, g, key, talk.Say, talk.Ask, talk.Tell)
					wantNumber(t, "Ask", talk.Ask, ask, g, key)
				}
				if !slices.Equal(says, impl.ElementsOf(g)) {
					t.Errorf("in TalksMade(%d, %d, %d) is said %v", g, key, ask, says)
				}
			}
		}
	}
}

// TestTalksInOrder holds both lists against one that is made element by element, in ascending order.
func TestTalksInOrder(t *testing.T) {
	for g, k := range groupsKnown {
		for secret := range k.order {
			key := powerKnown(k, k.base, secret)
			for ask := range k.order {
				var want []impl.Talk
				for _, say := range k.elements {
					want = append(want, rightTalks(k, secret, say)[ask])
				}
				if got := impl.TalksTrue(g, secret, ask); !slices.Equal(got, want) {
					t.Errorf("TalksTrue(%d, %d, %d) = %v, want %v", g, secret, ask, got, want)
				}
				if got := impl.TalksMade(g, key, ask); !slices.Equal(got, want) {
					t.Errorf("TalksMade(%d, %d, %d) = %v, want %v", g, key, ask, got, want)
				}
			}
		}
	}
}

func TestTalksByHand(t *testing.T) {
	want := []impl.Talk{{Say: 1, Ask: 2, Tell: 2}, {Say: 2, Ask: 2, Tell: 0}, {Say: 4, Ask: 2, Tell: 1}}
	if got := impl.TalksTrue(0, 1, 2); !slices.Equal(got, want) {
		t.Errorf("TalksTrue(0, 1, 2) = %v, want %v", got, want)
	}
	if got := impl.TalksMade(0, 2, 2); !slices.Equal(got, want) {
		t.Errorf("TalksMade(0, 2, 2) = %v, want %v", got, want)
	}
	// With the question 0 the answer is the exponent of what is said, whatever the secret is.
	want = []impl.Talk{{Say: 1, Tell: 0}, {Say: 3, Tell: 1}, {Say: 4, Tell: 4}, {Say: 5, Tell: 3}, {Say: 9, Tell: 2}}
	for secret, key := range []int{1, 3, 9, 5, 4} {
		if got := impl.TalksTrue(1, secret, 0); !slices.Equal(got, want) {
			t.Errorf("TalksTrue(1, %d, 0) = %v, want %v", secret, got, want)
		}
		if got := impl.TalksMade(1, key, 0); !slices.Equal(got, want) {
			t.Errorf("TalksMade(1, %d, 0) = %v, want %v", key, got, want)
		}
	}
}

func TestTalksOfOthers(t *testing.T) {
	none := func(what string, got []impl.Talk, args ...int) {
		t.Helper()
		if got != nil {
			t.Errorf("%s%v = %v, want nil", what, args, got)
		}
	}
	for g, k := range groupsKnown {
		for _, n := range exponentsWrong(k) {
			for _, args := range [][2]int{{n, 0}, {0, n}, {n, 1}, {1, n}, {n, n}} {
				none("TalksTrue", impl.TalksTrue(g, args[0], args[1]), g, args[0], args[1])
			}
			none("TalksMade", impl.TalksMade(g, 1, n), g, 1, n)
			none("TalksMade", impl.TalksMade(g, k.base, n), g, k.base, n)
		}
		for _, a := range elementsWrong(k) {
			none("TalksMade", impl.TalksMade(g, a, 0), g, a, 0)
			none("TalksMade", impl.TalksMade(g, a, a), g, a, a)
		}
	}
	for _, g := range groupsWrong() {
		none("TalksTrue", impl.TalksTrue(g, 0, 0), g, 0, 0)
		none("TalksTrue", impl.TalksTrue(g, math.MinInt, math.MaxInt), g, math.MinInt, math.MaxInt)
		none("TalksMade", impl.TalksMade(g, 1, 0), g, 1, 0)
		none("TalksMade", impl.TalksMade(g, math.MinInt, math.MaxInt), g, math.MinInt, math.MaxInt)
	}
}

func TestTalksAreNewMemory(t *testing.T) {
	lists := map[string]func(g int) []impl.Talk{
		"TalksTrue": func(g int) []impl.Talk { return impl.TalksTrue(g, 1, 1) },
		"TalksMade": func(g int) []impl.Talk { return impl.TalksMade(g, groupsKnown[g].base, 1) },
	}
	for what, list := range lists {
		for g := range groupsKnown {
			first, second := list(g), list(g)
			kept := slices.Clone(second)
			whole := first[:cap(first)]
			for i := range whole {
				whole[i] = impl.Talk{Say: -7, Ask: -7, Tell: -7}
			}
			if !slices.Equal(second, kept) || !slices.Equal(list(g), kept) {
				t.Errorf("two results of %s in group %d share memory", what, g)
			}
		}
	}
}

func TestP60ThereIsOneAnswerToEachQuestion(t *testing.T) {
	for g, k := range groupsKnown {
		for _, key := range k.elements {
			for _, say := range k.elements {
				for ask := range k.order {
					wantNumber(t, "TalksMany", impl.TalksMany(g, key, say, ask), 1, g, key, say, ask)
				}
			}
		}
	}
}

func TestTalksManyOthers(t *testing.T) {
	for g, k := range groupsKnown {
		for _, a := range elementsWrong(k) {
			wantNumber(t, "TalksMany", impl.TalksMany(g, a, 1, 0), -1, g, a, 1, 0)
			wantNumber(t, "TalksMany", impl.TalksMany(g, 1, a, 0), -1, g, 1, a, 0)
			wantNumber(t, "TalksMany", impl.TalksMany(g, a, a, 0), -1, g, a, a, 0)
		}
		for _, n := range exponentsWrong(k) {
			wantNumber(t, "TalksMany", impl.TalksMany(g, 1, 1, n), -1, g, 1, 1, n)
			wantNumber(t, "TalksMany", impl.TalksMany(g, k.base, 1, n), -1, g, k.base, 1, n)
		}
	}
	for _, g := range groupsWrong() {
		wantNumber(t, "TalksMany", impl.TalksMany(g, 1, 1, 0), -1, g, 1, 1, 0)
		wantNumber(t, "TalksMany", impl.TalksMany(g, math.MinInt, math.MaxInt, -1), -1, g)
	}
}

// textsKnown are the texts of all talks of a group, with the talks.
func textsKnown(k groupKnown) map[string]impl.Talk {
	texts := map[string]impl.Talk{}
	for _, talk := range talksOfGroup(k) {
		texts[fmt.Sprintf("%d,%d,%d", talk.Say, talk.Ask, talk.Tell)] = talk
	}
	return texts
}

func TestTalkText(t *testing.T) {
	for g, k := range groupsKnown {
		texts := textsKnown(k)
		if len(texts) != k.order*k.order*k.order {
			t.Fatalf("%d texts of talks of group %d", len(texts), g)
		}
		for want, talk := range texts {
			if got := impl.TalkText(g, talk); got != want {
				t.Errorf("TalkText(%d, %v) = %q, want %q", g, talk, got, want)
			}
		}
		for _, talk := range talksWrong(k) {
			if got := impl.TalkText(g, talk); got != "" {
				t.Errorf("TalkText(%d, %v) = %q, want none", g, talk, got)
			}
		}
	}
	for _, g := range groupsWrong() {
		for _, talk := range []impl.Talk{{}, {Say: 1}, {Say: 1, Ask: 1, Tell: 1}, {Say: math.MaxInt, Ask: math.MinInt, Tell: -1}} {
			if got := impl.TalkText(g, talk); got != "" {
				t.Errorf("TalkText(%d, %v) = %q, want none", g, talk, got)
			}
		}
	}
}

func TestP61TextsOfTalksAreRead(t *testing.T) {
	for g, k := range groupsKnown {
		for _, talk := range talksOfGroup(k) {
			got, ok := impl.ReadTalk(g, impl.TalkText(g, talk))
			wantTalk(t, "ReadTalk of TalkText", got, ok, talk, true, g, talk.Say, talk.Ask, talk.Tell)
		}
	}
}

// wantReading holds a text against all texts of talks of a group, and what is read against P62.
func wantReading(t *testing.T, g int, texts map[string]impl.Talk, s string) {
	t.Helper()
	want, wantOk := texts[s]
	got, ok := impl.ReadTalk(g, s)
	if got != want || ok != wantOk {
		t.Errorf("ReadTalk(%d, %.80q) = %v, %t, want %v, %t", g, s, got, ok, want, wantOk)
	}
	if ok && impl.TalkText(g, got) != s {
		t.Errorf("ReadTalk(%d, %.80q) = %v, whose text is %q", g, s, got, impl.TalkText(g, got))
	}
}

func TestP62ReadTextsAreCanonical(t *testing.T) {
	for g, k := range groupsKnown {
		texts := textsKnown(k)
		for s := range texts {
			wantReading(t, g, texts, s)
			wantReading(t, g, texts, s+",")
			if got, ok := impl.ReadTalk(g, s+","); ok || got != (impl.Talk{}) {
				t.Errorf("ReadTalk(%d, %q) = %v, %t", g, s+",", got, ok)
			}
		}
	}
}

// TestReadTalkOfShortTexts tries all texts of a few bytes.
func TestReadTalkOfShortTexts(t *testing.T) {
	const bytes = "0124,+- "
	list := []string{""}
	for from := 0; len(list[from]) < 5; from++ {
		for i := range len(bytes) {
			list = append(list, list[from]+bytes[i:i+1])
		}
	}
	for g, k := range groupsKnown {
		texts := textsKnown(k)
		for _, s := range list {
			wantReading(t, g, texts, s)
		}
	}
}

// textsAround are texts that differ from one at one place: a byte more, less or other.
func textsAround(s string) []string {
	const bytes = "0123456789,+-_ \t\n\r.;:'\"aex\x00\x7f\x80\xc3\xff"
	var list []string
	for at := range len(s) + 1 {
		for i := range len(bytes) {
			list = append(list, s[:at]+bytes[i:i+1]+s[at:])
			if at < len(s) {
				list = append(list, s[:at]+bytes[i:i+1]+s[at+1:])
			}
		}
		if at < len(s) {
			list = append(list, s[:at]+s[at+1:])
		}
	}
	return list
}

func TestReadTalkOfTextsAround(t *testing.T) {
	for g, k := range groupsKnown {
		texts := textsKnown(k)
		last := k.elements[k.order-1]
		for _, talk := range []impl.Talk{{Say: 1}, {Say: k.base, Ask: 1, Tell: 2}, {Say: last, Ask: k.order - 1, Tell: k.order - 1}, {Say: 4, Ask: 0, Tell: 1}} {
			for _, s := range textsAround(impl.TalkText(g, talk)) {
				wantReading(t, g, texts, s)
			}
		}
	}
}

// textsOdd are texts that are no TalkText in any group.
func textsOdd() []string {
	return []string{
		"", ",", ",,", ",,,", "1", "1,", "1,0", "1,0,", "1,,0", ",1,0,0", "1,0,0,", "1,,0,0", "1,0,,0", "1,0,0,0", "1,0,0,1,0,0", ",0,0", "1,,",
		"01,0,0", "1,00,0", "1,0,00", "1,01,0", "1,0,01", "+1,0,0", "1,+0,0", "1,0,+0", "-1,0,0", "1,-0,0", "1,0,-0", "1,-1,0", "1,0,-1",
		" 1,0,0", "1,0,0 ", "1, 0,0", "1 ,0,0", "1 0 0", "1,0,0\n", "1;0;0", "1.0,0,0", "1,0x0,0", "0x1,0,0", "1,0b1,0", "1,0,1e0", "1_,0,0", "1,1_0,0", "a,b,c",
		"1,0,\xc2\xb2", "\xef\xbc\x91,0,0", "\xff\xfe\xfd", "1,0,0\x00", "\x001,0,0", "1\x00,0,0", "0,0,0", "0,1,1", "48,0,0", "1,23,0", "1,0,23",
		"9223372036854775807,0,0", "9223372036854775808,0,0", "18446744073709551617,0,0", "1,18446744073709551616,0", "1,0,18446744073709551616",
		"4294967297,0,0", "1,4294967296,0", "1,0,4294967296", "257,0,0", "1,256,0", "1,0,256", "-9223372036854775808,0,0", "-9223372036854775809,0,0",
	}
}

func TestReadTalkOfOddTexts(t *testing.T) {
	long := 1 << 20
	odd := append(textsOdd(),
		strings.Repeat("1", long), strings.Repeat(",", long), strings.Repeat("1,", long), strings.Repeat("0", long)+"1,0,0",
		"1,0,"+strings.Repeat("0", long), "1,"+strings.Repeat("9", long)+",0", strings.Repeat(" ", long)+"1,0,0", "1,0,0"+strings.Repeat("\x00", long))
	for g, k := range groupsKnown {
		texts := textsKnown(k)
		for _, s := range odd {
			if _, ok := texts[s]; ok {
				t.Fatalf("%q is the text of a talk of group %d", s, g)
			}
			wantReading(t, g, texts, s)
		}
	}
	for _, g := range groupsWrong() {
		for _, s := range append(odd, "1,0,0", "2,1,1") {
			wantReading(t, g, nil, s)
		}
	}
}

func TestReadTalkOfOtherGroups(t *testing.T) {
	for g, k := range groupsKnown {
		texts := textsKnown(k)
		for _, other := range groupsKnown {
			for s := range textsKnown(other) {
				wantReading(t, g, texts, s)
			}
		}
	}
	onlyIn := []struct {
		g int
		s string
	}{{1, "5,0,0"}, {2, "13,0,0"}, {3, "7,0,0"}, {3, "42,0,0"}, {3, "1,22,22"}}
	for _, one := range onlyIn {
		for g := range impl.GroupsMany {
			_, ok := impl.ReadTalk(g, one.s)
			wantBool(t, "ReadTalk of "+one.s, ok, g == one.g, g)
		}
	}
}
