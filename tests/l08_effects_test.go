package tests

import (
	"math"
	"slices"
	"testing"

	"loop.example/g01170/impl"
)

func gainBy(g float32) impl.Effect {
	return impl.Effect{Kind: impl.EffectGain, Numbers: []float32{g}}
}

func filterWith(b0, b1, b2, a1, a2 float32) impl.Effect {
	return impl.Effect{Kind: impl.EffectFilter, Numbers: []float32{b0, b1, b2, a1, a2}}
}

func echoOf(length int64, f, w float32) impl.Effect {
	return impl.Effect{Kind: impl.EffectEcho, Length: length, Numbers: []float32{f, w}}
}

func squeezeWith(attack, release, threshold, ratio float32) impl.Effect {
	return impl.Effect{Kind: impl.EffectSqueeze, Numbers: []float32{attack, release, threshold, ratio}}
}

func clipAt(limit float32) impl.Effect {
	return impl.Effect{Kind: impl.EffectClip, Numbers: []float32{limit}}
}

func bend() impl.Effect { return impl.Effect{Kind: impl.EffectBend} }

func limitAt(length int64, limit, rise float32) impl.Effect {
	return impl.Effect{Kind: impl.EffectLimit, Length: length, Numbers: []float32{limit, rise}}
}

func chainOf(effects ...impl.Effect) []impl.Effect { return effects }

// oneOfEach has an effect of each kind, in the order of the kinds.
func oneOfEach() []impl.Effect {
	return chainOf(gainBy(0.75), filterWith(0.2, 0.4, -0.1, -1.5, 0.7), echoOf(3, 0.5, 0.25), squeezeWith(0.5, 0.25, 1, 2),
		clipAt(2), bend(), limitAt(2, 0.5, 0.125))
}

func effectKinds() []int64 { return []int64{0, 1, 2, 3, 4, 5, 6} }

func wrongEffectKinds() []int64 {
	return []int64{-1, 7, 8, 1 << 32, 1<<32 + 1, math.MinInt64, math.MaxInt64}
}

// numbersOfKind is how many Numbers the document's table has in the row of a kind.
func numbersOfKind(kind int64) int { return []int{1, 5, 2, 4, 1, 0, 2}[kind] }

// stateLength is how many numbers the state of an effect has by the document's table.
func stateLength(e impl.Effect) int {
	switch e.Kind {
	case impl.EffectFilter:
		return 2
	case impl.EffectEcho:
		return int(e.Length)
	case impl.EffectSqueeze:
		return 1
	case impl.EffectLimit:
		return 1 + int(e.Length)
	}
	return 0
}

// lengthsOfKind are some Lengths that effects of a kind can have, both ends among them.
func lengthsOfKind(kind int64) []int64 {
	switch kind {
	case impl.EffectEcho:
		return []int64{1, 2, 31, 32}
	case impl.EffectLimit:
		return []int64{0, 1, 31, 32}
	}
	return []int64{0}
}

func wrongLengthsOfKind(kind int64) []int64 {
	list := []int64{-1, 33, 34, 64, 1 << 32, 1<<32 + 1, math.MinInt64, math.MaxInt64}
	switch kind {
	case impl.EffectEcho:
		return append(list, 0)
	case impl.EffectLimit:
		return list
	}
	return append(list, 1, 2, 32)
}

// effectOfKind is a valid effect, whose Numbers are any ones in the style 3, and otherwise mostly less than 1.
func effectOfKind(style, seed int, kind int64) impl.Effect {
	k := gainsOfStyle(style, seed, 5)
	if style == 3 && seed%2 == 0 {
		k = samplesOfStyle(style, seed, 5)
	}
	lengths := lengthsOfKind(kind)
	e := impl.Effect{Kind: kind, Length: lengths[mixedBits(seed, 2000)%uint32(len(lengths))], Numbers: k[:numbersOfKind(kind)]}
	switch {
	case kind == impl.EffectSqueeze && style < 3:
		e.Numbers = []float32{plainSize(k[0]), plainSize(k[1]), k[2], plusOne(k[3])}
	case kind == impl.EffectLimit:
		e.Numbers[0] = plainSize(k[0])
		if !isRightLimit(e.Numbers[0]) {
			e.Numbers[0] = 1
		}
	}
	return e
}

// chainOfStyle has effects of all kinds.
func chainOfStyle(style, seed, count int) []impl.Effect {
	var list []impl.Effect
	for i := range count {
		list = append(list, effectOfKind(style, seed+i, int64(mixedBits(seed, 3000+i)%7)))
	}
	return list
}

func stateOfStyle(style, seed int, list []impl.Effect) [][]float32 {
	var state [][]float32
	for i, e := range list {
		state = append(state, samplesOfStyle(style, seed+i, stateLength(e)))
	}
	return state
}

// wrongEffects are just beside valid ones.
func wrongEffects() []impl.Effect {
	var list []impl.Effect
	for _, kind := range wrongEffectKinds() {
		for count := range 6 {
			list = append(list, impl.Effect{Kind: kind, Numbers: repeated(1, count)}, impl.Effect{Kind: kind, Length: 1, Numbers: repeated(1, count)})
		}
	}
	for _, kind := range effectKinds() {
		length, right := lengthsOfKind(kind)[0], numbersOfKind(kind)
		for _, count := range []int{0, 1, 2, 3, 4, 5, 6, 7, 256, 257} {
			if count != right {
				list = append(list, impl.Effect{Kind: kind, Length: length, Numbers: repeated(1, count)})
			}
		}
		for _, n := range wrongLengthsOfKind(kind) {
			list = append(list, impl.Effect{Kind: kind, Length: n, Numbers: repeated(1, right)})
		}
	}
	for _, limit := range wrongLimits() {
		list = append(list, limitAt(0, limit, 1), limitAt(32, limit, 0))
	}
	return list
}

func TestChapter8ValidEffects(t *testing.T) {
	for _, kind := range effectKinds() {
		for _, length := range lengthsOfKind(kind) {
			for style := range styles {
				for seed := range 20 {
					e := effectOfKind(style, seed, kind)
					if e.Length = length; !impl.ValidEffect(e) {
						t.Errorf("%v is not valid", e)
					}
				}
			}
		}
	}
	for _, e := range oneOfEach() {
		if !impl.ValidEffect(e) {
			t.Errorf("%v is not valid", e)
		}
	}
	if !impl.ValidEffect(impl.Effect{Kind: impl.EffectBend, Numbers: []float32{}}) {
		t.Error("a bend with an empty list is not valid")
	}
}

func TestChapter8AllLengths(t *testing.T) {
	for n := int64(-3); n <= 40; n++ {
		for _, kind := range effectKinds() {
			want := n == 0
			switch kind {
			case impl.EffectEcho:
				want = n >= 1 && n <= 32
			case impl.EffectLimit:
				want = n >= 0 && n <= 32
			}
			e := impl.Effect{Kind: kind, Length: n, Numbers: repeated(1, numbersOfKind(kind))}
			if got := impl.ValidEffect(e); got != want {
				t.Errorf("%v: %v", e, got)
			}
		}
	}
}

func TestChapter8AnyNumbersOfEffects(t *testing.T) {
	for _, x := range edgeNumbers() {
		for _, kind := range effectKinds() {
			if kind == impl.EffectLimit {
				continue
			}
			e := impl.Effect{Kind: kind, Length: lengthsOfKind(kind)[0], Numbers: repeated(x, numbersOfKind(kind))}
			if !impl.ValidEffect(e) {
				t.Errorf("%v is not valid", e)
			}
		}
		for _, length := range []int64{0, 32} {
			if !impl.ValidEffect(limitAt(length, 1, x)) {
				t.Errorf("a limit with the rise %v is not valid", x)
			}
			if got := impl.ValidEffect(limitAt(length, x, 1)); got != isRightLimit(x) {
				t.Errorf("a limit at %v: %v", x, got)
			}
		}
	}
}

func TestChapter8WrongEffects(t *testing.T) {
	for _, e := range wrongEffects() {
		if impl.ValidEffect(e) {
			t.Errorf("%v is valid", e)
		}
	}
}

func TestChapter8ValidChains(t *testing.T) {
	for count := range 12 {
		for style := range styles {
			list := chainOfStyle(style, 100*count, count)
			if got := impl.ValidChain(list); got != (count <= 8) {
				t.Errorf("a chain of %d effects: %v", count, got)
			}
		}
		if got := impl.ValidChain(slices.Repeat(chainOf(bend()), count)); got != (count <= 8) {
			t.Errorf("%d bends: %v", count, got)
		}
	}
	for _, wrong := range wrongEffects() {
		for place := range 8 {
			list := slices.Repeat(chainOf(gainBy(1)), 8)
			if list[place] = wrong; impl.ValidChain(list) {
				t.Errorf("a chain with %v is valid", wrong)
			}
		}
	}
	if !impl.ValidChain(nil) || !impl.ValidChain([]impl.Effect{}) || impl.ValidChain(make([]impl.Effect, 100000)) {
		t.Error("chains of no effects, and of many")
	}
}
