package tests

import (
	"slices"
	"testing"

	"loop.example/g01170/impl"
)

func soundingOfChain(list []impl.Effect, state [][]float32) sounding {
	return sounding{"a chain", state, func(lines [][]float32, before int, x []float32) ([]float32, [][]float32, bool) {
		return impl.RunChain(list, lines, x)
	}}
}

// soundingOfSavedChain goes on from what is read of a text in each block.
func soundingOfSavedChain(t *testing.T, list []impl.Effect, state [][]float32) sounding {
	return sounding{"a saved chain", state, func(lines [][]float32, before int, x []float32) ([]float32, [][]float32, bool) {
		text, ok := impl.StateText(list, lines)
		effects, saved, also := impl.ReadState(text)
		if !ok || !also {
			t.Errorf("the text %q is not read", text)
		}
		return impl.RunChain(effects, saved, x)
	}}
}

// soundingOfBoth has the lines of two chains, one behind the other.
func soundingOfBoth(a, b []impl.Effect, first, second [][]float32) sounding {
	return sounding{"two chains", slices.Concat(first, second), func(lines [][]float32, before int, x []float32) ([]float32, [][]float32, bool) {
		sums, one, other, ok := impl.RunBoth(a, b, lines[:len(a)], lines[len(a):], x)
		return sums, slices.Concat(one, other), ok
	}}
}

// chainsOfPromise9 are all kinds of effects alone, and chains of any number of them.
func chainsOfPromise9(style, seed int) [][]impl.Effect {
	list := [][]impl.Effect{nil, oneOfEach()}
	for i, kind := range effectKinds() {
		for k, length := range lengthsOfKind(kind) {
			e := effectOfKind(style, seed+10*i+k, kind)
			e.Length = length
			list = append(list, chainOf(e))
		}
	}
	for count := 2; count <= 8; count++ {
		list = append(list, chainOfStyle(style, seed+100*count, count))
	}
	long := chainOf(echoOf(32, 0.5, 1), limitAt(32, 0.5, 0.01), filterWith(0.2, 0.4, -0.1, -1.5, 0.7), squeezeWith(0.3, 0.05, 0.7, 3))
	return append(list, long)
}

func TestPromise9ChainsAreCutAnywhere(t *testing.T) {
	for style := range styles {
		for i, list := range chainsOfPromise9(style, 5000) {
			s := soundingOfChain(list, stateOfStyle(style, 5100+i, list))
			wantCutAnywhere(t, s, samplesOfStyle(style, 5200+i, 256))
		}
	}
}

func TestPromise9ChainsAreCutIntoBlocks(t *testing.T) {
	for style := range styles {
		for i, list := range chainsOfPromise9(style, 5300) {
			x, state := samplesOfStyle(style, 5500+i, 256), stateOfStyle(style, 5400+i, list)
			wantCutIntoBlocks(t, soundingOfChain(list, state), x)
			fresh, _ := impl.NewState(list)
			wantCutIntoBlocks(t, soundingOfChain(list, fresh), x)
		}
	}
}

func TestPromise9SavedStatesAreCutAnywhere(t *testing.T) {
	for style := range styles {
		for i, list := range chainsOfPromise9(style, 5600) {
			x, state := samplesOfStyle(style, 5800+i, 256), stateOfStyle(style, 5700+i, list)
			saved := soundingOfSavedChain(t, list, state)
			wantCutIntoBlocks(t, saved, x)
			want, last, _ := impl.RunChain(list, state, x)
			for _, cut := range []int{0, 1, 2, 31, 32, 33, 100, 255, 256} {
				first, middle, also := saved.run(state, 0, x[:cut])
				second, end, too := saved.run(middle, cut, x[cut:])
				wantSamples(t, "a chain that was saved", append(first, second...), also && too, want)
				wantState(t, "a state that was saved", end, also && too, last...)
			}
		}
	}
}

// cutsOf are places of some samples in ascending order, many of them the same.
func cutsOf(seed, count int) []int {
	var list []int
	for i := range 40 {
		list = append(list, int(mixedBits(seed, i))%(count+1))
		if i%3 == 0 {
			list = append(list, list[len(list)-1])
		}
	}
	slices.Sort(list)
	return append(list, count, count)
}

func TestPromise9BlocksOfAnyCut(t *testing.T) {
	for style := range styles {
		for seed := range 60 {
			list := chainOfStyle(style, 6000+20*seed, seed%9)
			state := stateOfStyle(style, 6100+20*seed, list)
			x := samplesOfStyle(style, 6200+seed, 256)
			want, last := plainChain(list, state, x)
			var out []float32
			before := 0
			for _, cut := range cutsOf(6300+seed, 256) {
				some, next, ok := impl.RunChain(list, state, x[before:cut])
				if !ok {
					t.Fatalf("%v fails", list)
				}
				out, state, before = append(out, some...), next, cut
			}
			wantSamples(t, "blocks of any cut", out, true, want)
			wantState(t, "behind blocks of any cut", state, true, last...)
		}
	}
}

func TestPromise9NothingComesOfNoSamples(t *testing.T) {
	for style := range styles {
		for i, list := range chainsOfPromise9(style, 6400) {
			state := stateOfStyle(style, 6500+i, list)
			for _, x := range [][]float32{nil, {}} {
				wantChain(t, "no samples", list, state, x, nil, state...)
			}
		}
	}
}

func TestPromise9BothChainsAreCut(t *testing.T) {
	for style := range styles {
		for count := range 9 {
			a, b := chainOfStyle(style, 6600+20*count, count), chainOfStyle(style, 6800+20*count, 8-count)
			s := soundingOfBoth(a, b, stateOfStyle(style, 7000+count, a), stateOfStyle(style, 7100+count, b))
			x := samplesOfStyle(style, 7200+count, 256)
			wantCutAnywhere(t, s, x)
			wantCutIntoBlocks(t, s, x)
		}
	}
}

func TestPromise9JoinedChainsRunOneAfterAnother(t *testing.T) {
	for style := range styles {
		for count := range 9 {
			a, b := chainOfStyle(style, 7300+20*count, count), chainOfStyle(style, 7500+20*count, 8-count)
			first, second := stateOfStyle(style, 7700+count, a), stateOfStyle(style, 7800+count, b)
			x := samplesOfStyle(style, 7900+count, 200)
			middle, one, _ := impl.RunChain(a, first, x)
			want, other, _ := impl.RunChain(b, second, middle)
			joined, ok := impl.JoinChains(a, b)
			if !ok {
				t.Fatalf("%v and %v are not joined", a, b)
			}
			wantChain(t, "joined chains", joined, slices.Concat(first, second), x, want, slices.Concat(one, other)...)
		}
	}
}

func TestPromise9WithoutAnEffectTheOthersGoOn(t *testing.T) {
	for style := range styles {
		list := append(chainOfStyle(style, 8500, 7), gainBy(1))
		state := stateOfStyle(style, 8600, list)
		x := samplesOfStyle(style, 8700, 256)
		_, middle, _ := impl.RunChain(list, state, x[:100])
		for i := range list {
			effects, left, ok := impl.WithoutEffect(list, middle, int64(i))
			if !ok {
				t.Fatalf("the effect %d is not left out", i)
			}
			wantPlainChain(t, "without an effect", effects, left, x[100:])
		}
		want, _, _ := impl.RunChain(list, middle, x[100:])
		effects, left, _ := impl.WithoutEffect(list, middle, 7)
		got, _, ok := impl.RunChain(effects, left, x[100:])
		wantSamples(t, "without a gain of 1", got, ok, want)
	}
}
