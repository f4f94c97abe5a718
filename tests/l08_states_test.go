package tests

import (
	"math"
	"slices"
	"testing"

	"loop.example/g01170/impl"
)

func isSameEffect(a, b impl.Effect) bool {
	return a.Kind == b.Kind && a.Length == b.Length && slices.Equal(allBits(a.Numbers), allBits(b.Numbers))
}

func wantEffects(t *testing.T, what string, got []impl.Effect, ok bool, want ...impl.Effect) {
	t.Helper()
	if !ok || !slices.EqualFunc(got, want, isSameEffect) {
		t.Errorf("%s: got %v %v, want %v", what, got, ok, want)
	}
}

func wantState(t *testing.T, what string, got [][]float32, ok bool, want ...[]float32) {
	t.Helper()
	if !ok {
		t.Errorf("%s: fails", what)
	}
	wantLines(t, what, got, ok, want)
}

// wantNoChain is for lists that are no chains, or with which there is no such state.
func wantNoChain(t *testing.T, what string, list []impl.Effect, state [][]float32) {
	t.Helper()
	if impl.IsState(list, state) {
		t.Errorf("%s: is a state", what)
	}
	text, ok := impl.StateText(list, state)
	wantZero(t, what, text, ok)
	for _, n := range []int{0, 1, 256} {
		out, next, ok := impl.RunChain(list, state, make([]float32, n))
		wantNoList(t, what, out, ok)
		wantNoList(t, what, next, ok)
		wantNotBoth(t, what, list, chainOf(bend()), state, [][]float32{{}}, make([]float32, n))
		wantNotBoth(t, what, nil, list, nil, state, make([]float32, n))
		wantNotBoth(t, what, list, list, state, state, make([]float32, n))
	}
	for i := range len(list) + 1 {
		effects, left, ok := impl.WithoutEffect(list, state, int64(i))
		wantNoList(t, what, effects, ok)
		wantNoList(t, what, left, ok)
	}
}

func wantNotBoth(t *testing.T, what string, a, b []impl.Effect, first, second [][]float32, x []float32) {
	t.Helper()
	sums, one, other, ok := impl.RunBoth(a, b, first, second, x)
	wantNoList(t, what, sums, ok)
	wantNoList(t, what, one, ok)
	wantNoList(t, what, other, ok)
}

// wantNoEffects is for lists that are no chains.
func wantNoEffects(t *testing.T, what string, list []impl.Effect) {
	t.Helper()
	for _, state := range [][][]float32{nil, make([][]float32, len(list)), slices.Repeat([][]float32{{1}}, len(list))} {
		wantNoChain(t, what, list, state)
	}
	state, ok := impl.NewState(list)
	wantNoList(t, what, state, ok)
	for _, count := range []int64{0, 1, 256} {
		out, ok := impl.ImpulseOfChain(list, count)
		wantNoList(t, what, out, ok)
	}
	late, ok := impl.LatenessOf(list)
	wantZero(t, what, late, ok)
	for _, other := range [][]impl.Effect{nil, chainOf(bend()), list} {
		joined, ok := impl.JoinChains(list, other)
		wantNoList(t, what, joined, ok)
		joined, ok = impl.JoinChains(other, list)
		wantNoList(t, what, joined, ok)
	}
	text, ok := impl.ChainText(list)
	wantZero(t, what, text, ok)
}

func TestChapter8WrongChains(t *testing.T) {
	for _, wrong := range wrongEffects() {
		wantNoEffects(t, "a wrong effect", chainOf(wrong))
		wantNoEffects(t, "a wrong first effect", chainOf(wrong, gainBy(1)))
		wantNoEffects(t, "a wrong last effect", append(oneOfEach(), wrong))
	}
	wantNoEffects(t, "too many effects", slices.Repeat(chainOf(gainBy(1)), 9))
	wantNoEffects(t, "two more", append(oneOfEach(), bend(), bend(), bend()))
	wantNoEffects(t, "many more", slices.Repeat(chainOf(gainBy(1)), 1000))
}

func TestChapter8NewStates(t *testing.T) {
	state, ok := impl.NewState(oneOfEach())
	wantState(t, "all kinds", state, ok, nil, []float32{0, 0}, []float32{0, 0, 0}, []float32{0}, nil, nil, []float32{1, 0, 0})
	state, ok = impl.NewState(nil)
	wantState(t, "no effects", state, ok)
	state, ok = impl.NewState(chainOf(limitAt(0, 1, 1), bend(), echoOf(1, 1, 1)))
	wantState(t, "the least lengths", state, ok, []float32{1}, nil, []float32{0})
	state, ok = impl.NewState(chainOf(echoOf(32, notANum, infinity), limitAt(32, tiny, notANum)))
	wantState(t, "the greatest lengths", state, ok, repeated(0, 32), append([]float32{1}, repeated(0, 32)...))
	state, ok = impl.NewState(slices.Repeat(chainOf(limitAt(1, 2, 3)), 8))
	wantState(t, "many effects", state, ok, slices.Repeat([][]float32{{1, 0}}, 8)...)
}

func TestChapter8NewStatesAreStates(t *testing.T) {
	for style := range styles {
		for seed := range 100 {
			list := chainOfStyle(style, 20*seed, seed%9)
			state, ok := impl.NewState(list)
			if !ok || !impl.IsState(list, state) {
				t.Errorf("%v has no new state", list)
			}
		}
	}
}

func TestChapter8States(t *testing.T) {
	for _, kind := range effectKinds() {
		for _, length := range lengthsOfKind(kind) {
			e := impl.Effect{Kind: kind, Length: length, Numbers: repeated(1, numbersOfKind(kind))}
			for n := range 70 {
				list := chainOf(bend(), e, gainBy(1))
				state := [][]float32{nil, make([]float32, n), {}}
				if got := impl.IsState(list, state); got != (n == stateLength(e)) {
					t.Errorf("%d numbers for %v: %v", n, e, got)
				}
				if n != stateLength(e) {
					wantNoChain(t, "too few or too many numbers", list, state)
				}
			}
		}
	}
}

func TestChapter8StatesHaveAnyNumbers(t *testing.T) {
	for _, x := range edgeNumbers() {
		var state [][]float32
		for _, e := range oneOfEach() {
			state = append(state, repeated(x, stateLength(e)))
		}
		if !impl.IsState(oneOfEach(), state) {
			t.Errorf("numbers %v are no state", x)
		}
	}
}

func TestChapter8StatesOfOtherChains(t *testing.T) {
	right, _ := impl.NewState(oneOfEach())
	for n := range 7 {
		wantNoChain(t, "too few lists", oneOfEach(), right[:n])
		wantNoChain(t, "too few effects", oneOfEach()[:n], right)
	}
	wantNoChain(t, "a list too many", oneOfEach(), append(slices.Clone(right), nil))
	wantNoChain(t, "another order", oneOfEach(), append(slices.Clone(right[1:]), nil))
	wantNoChain(t, "a list for no effects", nil, [][]float32{nil})
	wantNoChain(t, "no list", chainOf(bend()), nil)
	wantNoChain(t, "many lists", chainOf(bend()), make([][]float32, 100000))
	wantNoChain(t, "a number too many", chainOf(gainBy(1)), [][]float32{{1}})
	if !impl.IsState(nil, nil) || !impl.IsState([]impl.Effect{}, [][]float32{}) || !impl.IsState(nil, [][]float32{}) {
		t.Error("no effects have no state")
	}
}

func TestChapter8Lateness(t *testing.T) {
	for _, c := range []struct {
		list []impl.Effect
		want int64
	}{
		{nil, 0},
		{oneOfEach(), 2},
		{chainOf(echoOf(32, 1, 1)), 0},
		{chainOf(limitAt(0, 1, 1)), 0},
		{chainOf(limitAt(5, 1, 1), echoOf(7, 1, 1), limitAt(32, 2, 2), limitAt(5, 1, 1)), 42},
		{slices.Repeat(chainOf(limitAt(32, 1, 1)), 8), 256},
	} {
		if got, ok := impl.LatenessOf(c.list); !ok || got != c.want {
			t.Errorf("%v: %d %v, want %d", c.list, got, ok, c.want)
		}
	}
}

func TestChapter8LatenessIsThatOfTheImpulse(t *testing.T) {
	for n := range int64(33) {
		list := chainOf(limitAt(n, 1, 0), gainBy(0.5), limitAt(32-n, 1, 0))
		late, _ := impl.LatenessOf(list)
		out, ok := impl.ImpulseOfChain(list, 60)
		want := make([]float32, 60)
		want[late] = 0.5
		wantSamples(t, "a late impulse", out, ok && late == 32, want)
	}
}

func TestChapter8WithoutAnEffect(t *testing.T) {
	for count := 1; count <= 8; count++ {
		for style := range styles {
			list := chainOfStyle(style, 400+10*count, count)
			state := stateOfStyle(style, 500+10*count, list)
			for i := range list {
				effects, left, ok := impl.WithoutEffect(list, state, int64(i))
				wantEffects(t, "the effects", effects, ok, slices.Concat(list[:i], list[i+1:])...)
				wantState(t, "the state", left, ok, slices.Concat(state[:i], state[i+1:])...)
				if !impl.IsState(effects, left) {
					t.Errorf("%v is no state of %v", left, effects)
				}
			}
		}
	}
}

func TestChapter8WithoutNoEffect(t *testing.T) {
	for count := range 9 {
		list := chainOfStyle(0, 600+10*count, count)
		state := stateOfStyle(0, 700, list)
		for _, index := range []int64{-1, int64(count), int64(count) + 1, -int64(count) - 1, 9, 1 << 32, -1 << 32, math.MinInt64, math.MaxInt64} {
			effects, left, ok := impl.WithoutEffect(list, state, index)
			wantNoList(t, "no such effect", effects, ok)
			wantNoList(t, "no such effect", left, ok)
		}
	}
}

func TestChapter8JoinedChains(t *testing.T) {
	for first := range 10 {
		for second := range 10 {
			a, b := chainOfStyle(1, 800+10*first, first), chainOfStyle(3, 900+10*second, second)
			joined, ok := impl.JoinChains(a, b)
			if first+second <= 8 {
				wantEffects(t, "joined chains", joined, ok, slices.Concat(a, b)...)
			} else {
				wantNoList(t, "too many effects", joined, ok)
			}
		}
	}
}
