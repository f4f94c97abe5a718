package tests

import (
	"testing"

	"loop.example/g01170/impl"
)

// onLevel is a sounding that keeps a level.
func onLevel(name string, s impl.Squeeze, run func(s impl.Squeeze, before int, x []float32) ([]float32, impl.Squeeze, bool)) sounding {
	return onOneLine(name, []float32{s.Follower.Level}, func(line []float32, before int, x []float32) ([]float32, []float32, bool) {
		s := s
		s.Follower.Level = line[0]
		results, last, ok := run(s, before, x)
		return results, []float32{last.Follower.Level}, ok
	})
}

func soundingsOfLevels(style, seed int) []sounding {
	k, side := gainsOfStyle(style, seed, 5), samplesOfStyle(style, seed+1, 256)
	s := squeezeOf([]float32{plainSize(k[0]), plainSize(k[1]), k[2], k[3], plusOne(k[4])})
	return []sounding{
		onLevel("a follower", s, func(s impl.Squeeze, before int, x []float32) ([]float32, impl.Squeeze, bool) {
			levels, f, ok := impl.FollowLevel(s.Follower, x)
			return levels, impl.Squeeze{Follower: f}, ok
		}),
		onLevel("a squeeze", s, func(s impl.Squeeze, before int, x []float32) ([]float32, impl.Squeeze, bool) {
			return impl.RunSqueeze(s, x)
		}),
		onLevel("a squeeze by others", s, func(s impl.Squeeze, before int, x []float32) ([]float32, impl.Squeeze, bool) {
			return impl.DuckSamples(s, x, side[before:before+len(x)])
		}),
	}
}

func plusOne(x float32) float32 { return plus(1, plainSize(x)) }

func soundingOfGate(threshold float32, hold, held int64) sounding {
	return onOneLine("a gate", []float32{float32(held)}, func(line []float32, before int, x []float32) ([]float32, []float32, bool) {
		results, last, ok := impl.RunGate(x, threshold, hold, int64(line[0]))
		return results, []float32{float32(last)}, ok
	})
}

func soundingOfLimiter(l impl.Limiter) sounding {
	return sounding{"a limiter", [][]float32{{l.Gain}, l.Ahead}, func(lines [][]float32, before int, x []float32) ([]float32, [][]float32, bool) {
		outputs, last, ok := impl.RunLimiter(impl.Limiter{Limit: l.Limit, Rise: l.Rise, Gain: lines[0][0], Ahead: lines[1]}, x)
		return outputs, [][]float32{{last.Gain}, last.Ahead}, ok
	}}
}

func soundingsOfDynamics(style int) []sounding {
	var list []sounding
	for i, ahead := range []int{0, 1, 2, 30, 63, 64} {
		list = append(list, soundingsOfLevels(style, 8000+10*i)...)
		list = append(list, soundingOfGate(2, int64(3*i), int64(2*i)), soundingOfGate(20, 10000, 100))
		list = append(list, soundingOfLimiter(limiterOfStyle(style, 8100+i, ahead)))
		list = append(list, soundingOfLimiter(impl.Limiter{Limit: 0.5, Rise: 0.01, Gain: 1, Ahead: samplesOfStyle(style, 8200+i, ahead)}))
	}
	return list
}

func TestChapter4SamplesAreCutAnywhere(t *testing.T) {
	for style := range styles {
		for _, s := range soundingsOfDynamics(style) {
			wantCutAnywhere(t, s, samplesOfStyle(style, 8300, 256))
		}
	}
}

func TestChapter4SamplesAreCutIntoBlocks(t *testing.T) {
	for style := range styles {
		for _, s := range soundingsOfDynamics(style) {
			wantCutIntoBlocks(t, s, samplesOfStyle(style, 8400, 256))
		}
	}
}
