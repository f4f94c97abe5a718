package tests

import (
	"math"
	"reflect"
	"slices"
	"strings"
	"testing"

	"loop.example/g01170/impl"
)

func effectsBits(list []impl.Effect) []any {
	bits := []any{}
	for _, e := range list {
		bits = append(bits, e.Kind, e.Length, allBits(e.Numbers))
	}
	return bits
}

func chainOutcome(list []impl.Effect, ok bool) []any { return plain(effectsBits(list), ok) }

func chainRunOutcome(out []float32, state [][]float32, ok bool) []any {
	return plain(out, allLineBits(state), ok)
}

func bothOutcome(sums []float32, first, second [][]float32, ok bool) []any {
	return plain(sums, allLineBits(first), allLineBits(second), ok)
}

func chainStateOutcome(list []impl.Effect, state [][]float32, ok bool) []any {
	return plain(effectsBits(list), allLineBits(state), ok)
}

// guardedEffects guards effects and their Numbers.
type guardedEffects struct {
	list    []impl.Effect
	numbers guardedInputs
	outer   guarded[impl.Effect]
}

func numbersOf(list []impl.Effect) [][]float32 {
	var lists [][]float32
	for _, e := range list {
		lists = append(lists, e.Numbers)
	}
	return lists
}

func isSamePlace(a, b impl.Effect) bool {
	return a.Kind == b.Kind && a.Length == b.Length && isSameMemory([][]float32{a.Numbers}, [][]float32{b.Numbers})
}

func guardEffects(effects []impl.Effect) guardedEffects {
	g := guardedEffects{numbers: guardInputs(numbersOf(effects))}
	list := slices.Clone(effects)
	for i, numbers := range g.numbers.list {
		list[i].Numbers = numbers
	}
	same := func(a, b []impl.Effect) bool { return slices.EqualFunc(a, b, isSamePlace) }
	g.outer = guard(list, impl.Effect{Kind: -77}, same)
	g.list = g.outer.list
	return g
}

func (g guardedEffects) isUntouched() bool { return g.outer.isUntouched() && g.numbers.isUntouched() }

func anyChains() [][]impl.Effect {
	list := [][]impl.Effect{nil, {}, {{}}, oneOfEach(), make([]impl.Effect, 9), make([]impl.Effect, 1000), slices.Repeat(chainOf(bend()), 8)}
	list = append(list, slices.Repeat(chainOf(echoOf(32, 0.5, 0.5)), 8), slices.Repeat(chainOf(limitAt(32, 0.5, 0.5)), 9))
	for i, wrong := range wrongEffects() {
		if i%7 == 0 {
			list = append(list, chainOf(gainBy(1), wrong))
		}
	}
	for count := 1; count <= 9; count++ {
		list = append(list, chainOfStyle(count%styles, 9000+20*count, count))
	}
	return list
}

// anyStates are a right state of a chain, if it has one, and wrong ones.
func anyStates(list []impl.Effect) [][][]float32 {
	states := [][][]float32{nil, {}, {nil}, {{1}}, make([][]float32, len(list)), slices.Repeat([][]float32{{1, 2}}, len(list)), make([][]float32, 1000)}
	if impl.ValidChain(list) {
		right := stateOfStyle(1, 9100, list)
		states = append(states, right, append(slices.Clone(right), nil))
	}
	return states
}

func TestPromise1Effects(t *testing.T) {
	counts := append(anyCounts(), 0, 1, 256, 257)
	for _, list := range append(anyChains(), wrongEffects()) {
		chain := guardEffects(list)
		wantTwice(t, "functions of a chain", func() []any {
			state, ok := impl.NewState(chain.list)
			return slices.Concat(plain(impl.ValidChain(chain.list), allLineBits(state), ok), outcome(impl.LatenessOf(chain.list)),
				outcome(impl.ChainText(chain.list)))
		})
		for _, e := range chain.list {
			wantTwice(t, "ValidEffect", func() []any { return plain(impl.ValidEffect(e)) })
		}
		for _, count := range counts {
			wantTwice(t, "ImpulseOfChain", func() []any { return outcome(impl.ImpulseOfChain(chain.list, count)) })
		}
		if !chain.isUntouched() {
			t.Errorf("a chain of %d effects was modified", len(list))
		}
	}
}

func TestPromise1ChainsAndStates(t *testing.T) {
	for _, list := range anyChains() {
		for _, numbers := range anyStates(list) {
			chain, state := guardEffects(list), guardInputs(numbers)
			wantTwice(t, "functions of a state", func() []any {
				return slices.Concat(plain(impl.IsState(chain.list, state.list)), outcome(impl.StateText(chain.list, state.list)))
			})
			for _, index := range []int64{0, 1, 7, 8, int64(len(list)), int64(len(list)) - 1, -1, math.MinInt64, math.MaxInt64} {
				wantTwice(t, "WithoutEffect", func() []any { return chainStateOutcome(impl.WithoutEffect(chain.list, state.list, index)) })
			}
			for _, samples := range anyLists() {
				x := guardNumbers(samples)
				wantTwice(t, "RunChain", func() []any { return chainRunOutcome(impl.RunChain(chain.list, state.list, x.list)) })
				if !x.isUntouched() {
					t.Errorf("%d samples were modified", len(samples))
				}
			}
			if !chain.isUntouched() || !state.isUntouched() {
				t.Errorf("a chain of %d effects or its state was modified", len(list))
			}
		}
	}
}

func TestPromise1TwoChains(t *testing.T) {
	for i, first := range anyChains() {
		for k, second := range anyChains() {
			a, b := guardEffects(first), guardEffects(second)
			wantTwice(t, "JoinChains", func() []any { return chainOutcome(impl.JoinChains(a.list, b.list)) })
			before, after := anyStates(first), anyStates(second)
			one, other := guardInputs(before[max(0, len(before)-2)]), guardInputs(after[max(0, len(after)-2)])
			x := guardNumbers(anyLists()[(i+k)%len(anyLists())])
			wantTwice(t, "RunBoth", func() []any { return bothOutcome(impl.RunBoth(a.list, b.list, one.list, other.list, x.list)) })
			if !a.isUntouched() || !b.isUntouched() || !one.isUntouched() || !other.isUntouched() || !x.isUntouched() {
				t.Errorf("an argument of %d and %d effects was modified", len(first), len(second))
			}
		}
	}
}

func TestPromise1TextsOfChains(t *testing.T) {
	texts := append(anyTexts(), textsOfStates(t)...)
	for _, s := range anyTexts() {
		texts = append(texts, s+"|none|", "none|"+s, checked(s+"|"+s+"|"), "5.0.none;"+s, "0.0."+s, "2."+s+".00000000,00000000", s+".0.none")
	}
	texts = append(texts, strings.Repeat("5.0.none;", 100000), strings.Repeat("|", 100000), strings.Repeat(";", 100000), textOfEach)
	for _, s := range texts {
		wantTwice(t, "functions of a text", func() []any {
			return slices.Concat(chainOutcome(impl.ReadChain(s)), chainStateOutcome(impl.ReadState(s)))
		})
	}
}

// wantApart looks whether lists of effects or of numbers share memory.
func wantApart(t *testing.T, what string, chains [][]impl.Effect, states [][][]float32, lists ...[]float32) {
	t.Helper()
	for _, chain := range chains {
		lists = append(lists, numbersOf(chain)...)
	}
	for _, state := range states {
		lists = append(lists, state...)
	}
	wantOwnMemory(t, what, lists...)
	for i, chain := range chains {
		clear(chain[:cap(chain)])
		for k, other := range chains {
			if k > i && slices.ContainsFunc(other, func(e impl.Effect) bool { return reflect.DeepEqual(e, impl.Effect{}) }) {
				t.Errorf("%s: the chains %d and %d share memory", what, i, k)
			}
		}
	}
	for i, state := range states {
		clear(state[:cap(state)])
		for k, other := range states {
			if k > i && slices.ContainsFunc(other, func(list []float32) bool { return list == nil }) {
				t.Errorf("%s: the states %d and %d share memory", what, i, k)
			}
		}
	}
}

// withLists has empty lists instead of nil ones, so that they are told from those that were cleared.
func withLists(state [][]float32) [][]float32 {
	for i, list := range state {
		if list == nil {
			state[i] = []float32{}
		}
	}
	return state
}

func TestPromise1ChainsShareNoMemory(t *testing.T) {
	for count := 1; count <= 8; count++ {
		for _, n := range []int{0, 1, 64, 65, 256} {
			list := slices.Concat(oneOfEach(), oneOfEach())[count%7:][:count]
			chain, state, x := guardEffects(list), guardInputs(stateOfStyle(0, 9200, list)), guardNumbers(mixedSamples(9300, n))
			out, last, _ := impl.RunChain(chain.list, state.list, x.list)
			none, nothing, _ := impl.RunChain(nil, nil, x.list)
			sums, first, second, _ := impl.RunBoth(chain.list, chain.list, state.list, state.list, x.list)
			plainSums, _, third, ok := impl.RunBoth(nil, chain.list, nil, state.list, x.list)
			fresh, _ := impl.NewState(chain.list)
			again, _ := impl.NewState(chain.list)
			impulse, _ := impl.ImpulseOfChain(nil, 9)
			if !ok || len(nothing) > 0 {
				t.Fatalf("%v fails", list)
			}
			states := [][][]float32{withLists(last), withLists(first), withLists(second), withLists(third), withLists(fresh), withLists(again)}
			wantApart(t, "runs", nil, states, out, none, sums, plainSums, impulse)
			if !chain.isUntouched() || !state.isUntouched() || !x.isUntouched() {
				t.Errorf("a result of %d effects and %d samples shares memory with an argument", count, n)
			}
		}
	}
}

func TestPromise1EffectsShareNoMemory(t *testing.T) {
	for count := 1; count <= 4; count++ {
		list := slices.Concat(oneOfEach(), oneOfEach())[2*count : 3*count]
		chain, state := guardEffects(list), guardInputs(stateOfStyle(0, 9400, list))
		text, _ := impl.StateText(chain.list, state.list)
		joined, _ := impl.JoinChains(chain.list, chain.list)
		alone, _ := impl.JoinChains(chain.list, nil)
		alsoAlone, _ := impl.JoinChains(nil, chain.list)
		read, _ := impl.ReadChain(text[:strings.Index(text, "|")])
		effects, saved, ok := impl.ReadState(text)
		more, savedMore, also := impl.ReadState(text)
		if !ok || !also || len(read) != count || len(joined) != 2*count {
			t.Fatalf("%v fails", list)
		}
		chains, states := [][]impl.Effect{joined, alone, alsoAlone, read, effects, more}, [][][]float32{withLists(saved), withLists(savedMore)}
		for index := range list {
			left, rest, _ := impl.WithoutEffect(chain.list, state.list, int64(index))
			chains, states = append(chains, left), append(states, withLists(rest))
		}
		wantApart(t, "chains", chains, states)
		if !chain.isUntouched() || !state.isUntouched() {
			t.Errorf("a result of %d effects shares memory with an argument", count)
		}
	}
}

func TestPromise1EffectsThatShareMemoryThemselves(t *testing.T) {
	memory := []float32{0.5, 0.25, 0.125}
	e := impl.Effect{Kind: impl.EffectEcho, Length: 3, Numbers: memory[:2]}
	list, state := chainOf(e, e), [][]float32{memory, memory}
	want, last := plainChain(list, state, memory)
	wantChain(t, "one memory", list, state, memory, want, last...)
	joined, ok := impl.JoinChains(list[:1], list[:1])
	joined[0].Numbers[0] = 7
	wantEffects(t, "one chain twice", joined, ok, echoOf(3, 7, 0.25), e)
	effects, left, ok := impl.WithoutEffect(append(list, e), [][]float32{memory, memory, memory}, 1)
	effects[0].Numbers[0], left[0][0] = 7, 7
	wantEffects(t, "without one of them", effects, ok, echoOf(3, 7, 0.25), e)
	wantState(t, "without one of them", left, ok, []float32{7, 0.25, 0.125}, memory)
}

func TestPromise1ChainsOfNilAndEmptyLists(t *testing.T) {
	none, effects, state := []float32{}, []impl.Effect{}, [][]float32{}
	bent, empty := chainOf(bend()), chainOf(impl.Effect{Kind: impl.EffectBend, Numbers: none})
	for i, pair := range [][2][]any{
		{plain(impl.ValidChain(nil)), plain(impl.ValidChain(effects))},
		{plain(impl.ValidEffect(bent[0])), plain(impl.ValidEffect(empty[0]))},
		{linesOutcome(impl.NewState(nil)), linesOutcome(impl.NewState(effects))},
		{linesOutcome(impl.NewState(bent)), linesOutcome(impl.NewState(empty))},
		{plain(impl.IsState(nil, state)), plain(impl.IsState(effects, nil))},
		{plain(impl.IsState(bent, [][]float32{nil})), plain(impl.IsState(empty, [][]float32{none}))},
		{chainRunOutcome(impl.RunChain(nil, state, nil)), chainRunOutcome(impl.RunChain(effects, nil, none))},
		{chainRunOutcome(impl.RunChain(bent, [][]float32{nil}, nil)), chainRunOutcome(impl.RunChain(empty, [][]float32{none}, none))},
		{bothOutcome(impl.RunBoth(nil, effects, state, nil, nil)), bothOutcome(impl.RunBoth(effects, nil, nil, state, none))},
		{outcome(impl.ImpulseOfChain(nil, 3)), outcome(impl.ImpulseOfChain(effects, 3))},
		{outcome(impl.LatenessOf(nil)), outcome(impl.LatenessOf(effects))},
		{chainStateOutcome(impl.WithoutEffect(bent, [][]float32{nil}, 0)), chainStateOutcome(impl.WithoutEffect(empty, [][]float32{none}, 0))},
		{chainOutcome(impl.JoinChains(nil, effects)), chainOutcome(impl.JoinChains(effects, nil))},
		{chainOutcome(impl.JoinChains(nil, bent)), chainOutcome(impl.JoinChains(empty, effects))},
		{outcome(impl.ChainText(nil)), outcome(impl.ChainText(effects))},
		{outcome(impl.ChainText(bent)), outcome(impl.ChainText(empty))},
		{outcome(impl.StateText(nil, state)), outcome(impl.StateText(effects, nil))},
		{outcome(impl.StateText(bent, [][]float32{nil})), outcome(impl.StateText(empty, [][]float32{none}))},
	} {
		if !reflect.DeepEqual(pair[0], pair[1]) || pair[0][len(pair[0])-1] != true {
			t.Errorf("pair %d: %v and %v", i, pair[0], pair[1])
		}
	}
}
