package tests

import (
	"testing"

	"loop.example/g01170/impl"
)

// sounding makes results of samples that come behind some others, from the lines behind those on.
type sounding struct {
	name  string
	lines [][]float32
	run   func(lines [][]float32, before int, x []float32) ([]float32, [][]float32, bool)
}

// onOneLine is a sounding whose only line has so many numbers.
func onOneLine(name string, line []float32, run func(line []float32, before int, x []float32) ([]float32, []float32, bool)) sounding {
	return sounding{name, [][]float32{line}, func(lines [][]float32, before int, x []float32) ([]float32, [][]float32, bool) {
		results, last, ok := run(lines[0], before, x)
		return results, [][]float32{last}, ok
	}}
}

func soundingOfRoom(style, seed, combs, passes int) sounding {
	r, lines := roomOfStyle(style, seed, combs, passes)
	return sounding{"a room", lines, func(lines [][]float32, before int, x []float32) ([]float32, [][]float32, bool) {
		return impl.RunRoom(r, lines, x)
	}}
}

func soundingOfChorus(style, seed, count, length int, from int64) sounding {
	table, mix := tableOfStyle(seed, count, length), gainsOfStyle(style, seed, 1)[0]
	return onOneLine("a chorus", samplesOfStyle(style, seed+1, length), func(line []float32, before int, x []float32) ([]float32, []float32, bool) {
		return impl.RunChorus(table, mix, line, from+int64(before), x)
	})
}

func soundings(style int) []sounding {
	var list []sounding
	for i, length := range []int{1, 2, 17, 63, 64} {
		k, line := gainsOfStyle(style, 400+i, 4), samplesOfStyle(style, 410+i, length)
		for _, flush := range []bool{false, true} {
			d := impl.Delay{Length: int64(length), Feedback: k[0], Dry: k[1], Wet: k[2], Flush: flush}
			list = append(list, onOneLine("a delay", line, func(line []float32, before int, x []float32) ([]float32, []float32, bool) {
				return impl.RunDelay(d, line, x)
			}))
		}
		p := impl.Pass{Length: int64(length), Gain: k[3]}
		list = append(list, onOneLine("a pass", line, func(line []float32, before int, x []float32) ([]float32, []float32, bool) {
			return impl.RunPass(p, line, x)
		}))
		list = append(list, soundingOfRoom(style, 420+i, 1+i%4, i%4), soundingOfRoom(style, 430+i, 4, 3))
		taps := tapsOfStyle(style, 440+i, 2*i)
		list = append(list, onOneLine("taps", samplesOfStyle(style, 450+i, 64), func(line []float32, before int, x []float32) ([]float32, []float32, bool) {
			return impl.RunTaps(taps, line, x)
		}))
		list = append(list, soundingOfChorus(style, 460+i, 7, length, int64(i)), soundingOfChorus(style, 470+i, length, 40, impl.MaxValue-256))
	}
	return list
}

// runCut runs samples in blocks, the last one of which can be shorter.
func runCut(s sounding, size int, x []float32) ([]float32, [][]float32, bool) {
	lines, all, before := s.lines, []float32{}, 0
	for before < len(x) {
		end := min(before+size, len(x))
		results, last, ok := s.run(lines, before, x[before:end])
		if !ok {
			return nil, nil, false
		}
		all, lines, before = append(all, results...), last, end
	}
	return all, lines, true
}

func wantCutAnywhere(t *testing.T, s sounding, x []float32) {
	t.Helper()
	want, end, ok := s.run(s.lines, 0, x)
	if !ok || len(want) != len(x) {
		t.Fatalf("%s fails", s.name)
	}
	for cut := range len(x) + 1 {
		first, middle, also := s.run(s.lines, 0, x[:cut])
		second, last, too := s.run(middle, cut, x[cut:])
		wantSamples(t, s.name, append(first, second...), also && too, want)
		wantLines(t, s.name, last, also && too, end)
	}
}

func wantCutIntoBlocks(t *testing.T, s sounding, x []float32) {
	t.Helper()
	want, end, _ := s.run(s.lines, 0, x)
	for _, size := range []int{1, 2, 3, 7, 16, 63, 64, 65, 128, 255, 256} {
		got, last, ok := runCut(s, size, x)
		wantSamples(t, s.name, got, ok, want)
		wantLines(t, s.name, last, ok, end)
	}
}

func TestPromise4SamplesAreCutAnywhere(t *testing.T) {
	for style := range styles {
		for _, s := range soundings(style) {
			wantCutAnywhere(t, s, samplesOfStyle(style, 480, 256))
		}
	}
}

func TestPromise4SamplesAreCutIntoBlocks(t *testing.T) {
	for style := range styles {
		for _, s := range soundings(style) {
			wantCutIntoBlocks(t, s, samplesOfStyle(style, 490, 256))
		}
	}
}

func wantSilent(t *testing.T, what string, d impl.Delay, line []float32, want int64) {
	t.Helper()
	for _, k := range append(edgeNumbers(), 0.5) {
		d.Dry, d.Wet = k, -k
		if got, ok := impl.SilentFrom(d, line); !ok || got != want {
			t.Errorf("%s: silent from %d %v, want %d", what, got, ok, want)
		}
	}
}

func wantNeverSilent(t *testing.T, what string, d impl.Delay, line []float32) {
	t.Helper()
	got, ok := impl.SilentFrom(d, line)
	wantZero(t, what, got, ok)
}

// lineWith has one number at a place, and +0 elsewhere.
func lineWith(length, place int, x float32) []float32 {
	line := make([]float32, length)
	line[place] = x
	return line
}

func TestPromise4SilenceAtOnce(t *testing.T) {
	for n := 1; n <= 64; n++ {
		for _, zero := range []float32{0, minus0} {
			for _, feedback := range []float32{0, minus0, 0.5, -1, largest, tiny} {
				for _, flush := range []bool{false, true} {
					d := impl.Delay{Length: int64(n), Feedback: feedback, Flush: flush}
					wantSilent(t, "zeros", d, repeated(zero, n), 0)
					wantSilent(t, "one other zero", d, lineWith(n, n/2, zero), 0)
				}
			}
		}
	}
}

func TestPromise4SilenceByHand(t *testing.T) {
	wantSilent(t, "the example", impl.Delay{Length: 2, Flush: true}, []float32{1, 0}, 1)
	wantSilent(t, "the newest number", impl.Delay{Length: 2, Flush: true}, []float32{0, 1}, 2)
	wantSilent(t, "a feedback -0", impl.Delay{Length: 2, Feedback: minus0}, []float32{0, 1}, 2)
	half := impl.Delay{Length: 1, Feedback: 0.5}
	wantSilent(t, "halves, not flushed", half, []float32{1}, 150)
	half.Flush = true
	wantSilent(t, "halves, flushed", half, []float32{1}, 127)
	half.Feedback = -0.5
	wantSilent(t, "halves with signs", half, []float32{-1}, 127)
	wantSilent(t, "what is in the line is not flushed before it is taken out", impl.Delay{Length: 1, Feedback: 2, Flush: true}, []float32{tiny}, 1)
	wantSilent(t, "a subnormal number is no zero", impl.Delay{Length: 3, Flush: true}, []float32{0, tiny, 0}, 2)
	wantNeverSilent(t, "a subnormal number that becomes normal", impl.Delay{Length: 1, Feedback: 2, Flush: true}, []float32{0x1p-127})
	wantSilent(t, "a subnormal number that goes round", impl.Delay{Length: 2, Feedback: 1, Flush: true}, []float32{0, tiny}, 2)
	wantNeverSilent(t, "and is not flushed", impl.Delay{Length: 2, Feedback: 1}, []float32{0, tiny})
	wantSilent(t, "half of the least number is even", impl.Delay{Length: 1, Feedback: 0.5}, []float32{tiny}, 1)
	wantNeverSilent(t, "more than half of it is itself", impl.Delay{Length: 1, Feedback: 0.75}, []float32{tiny})
}

func TestPromise4SilenceOfAllLengths(t *testing.T) {
	for n := 1; n <= 64; n++ {
		for place := range n {
			for _, flush := range []bool{false, true} {
				d := impl.Delay{Length: int64(n), Feedback: 0, Flush: flush}
				wantSilent(t, "no feedback", d, lineWith(n, place, largest), int64(place+1))
				d.Feedback = 0x1p-64
				rounds := 3 // 2^-128 is subnormal, and 2^-192 is nearer to 0 than to any other number.
				if flush {
					rounds = 2
				}
				wantSilent(t, "a feedback", d, lineWith(n, place, 1), int64((rounds-1)*n+place+1))
			}
		}
	}
}

func TestPromise4SilenceAtTheLimit(t *testing.T) {
	d := impl.Delay{Length: 64, Feedback: 0x1p-40, Flush: true}
	wantSilent(t, "four rounds of the newest number", d, lineWith(64, 63, 1), 256)
	wantSilent(t, "a sample less", d, lineWith(64, 62, 1), 255)
	d.Feedback = 0x1p-31
	wantNeverSilent(t, "a round more of the oldest number", d, lineWith(64, 0, 1))
	d = impl.Delay{Length: 2, Feedback: 0.5, Flush: true}
	wantSilent(t, "254 samples", d, []float32{0, 1}, 254)
	wantSilent(t, "255 samples", d, []float32{2, 1}, 255)
	wantSilent(t, "256 samples", d, []float32{1, 2}, 256)
	wantNeverSilent(t, "257 samples", d, []float32{4, 2})
}

func TestPromise4SilenceThatNeverComes(t *testing.T) {
	for _, feedback := range []float32{1, -1, 1.5, largest, 0.75, 0.9} {
		for _, n := range []int{1, 2, 63, 64} {
			for _, flush := range []bool{false, true} {
				d := impl.Delay{Length: int64(n), Feedback: feedback, Flush: flush}
				wantNeverSilent(t, "a sound that stays", d, lineWith(n, n-1, 1))
				wantNeverSilent(t, "a great number", d, lineWith(n, 0, -largest))
			}
		}
	}
}

func TestPromise4SilenceNeedsFiniteNumbers(t *testing.T) {
	for _, x := range []float32{infinity, -infinity, notANum, rawNumber(0xff800001), rawNumber(0x7f800001)} {
		for _, n := range []int{1, 2, 64} {
			for _, flush := range []bool{false, true} {
				d := impl.Delay{Length: int64(n), Feedback: x, Flush: flush}
				wantNeverSilent(t, "a feedback, and zeros", d, make([]float32, n))
				wantNeverSilent(t, "a feedback, and a number", d, lineWith(n, 0, 1))
				d.Feedback = 0
				for place := range n {
					wantNeverSilent(t, "a number of the line", d, lineWith(n, place, x))
				}
			}
		}
	}
}

func TestPromise4SilenceOfWrongLines(t *testing.T) {
	for _, n := range wrongLengths() {
		for _, count := range []int{0, 1, 64, 65, 100} {
			wantNeverSilent(t, "a wrong length", impl.Delay{Length: n}, make([]float32, count))
		}
	}
	for _, n := range []int64{1, 2, 63, 64} {
		for count := range 70 {
			if int64(count) != n {
				wantNeverSilent(t, "a line of another length", impl.Delay{Length: n}, make([]float32, count))
			}
		}
		wantNeverSilent(t, "no line", impl.Delay{Length: n}, nil)
	}
}

func areZeros(list []float32) bool {
	for _, x := range list {
		if x != 0 {
			return false
		}
	}
	return true
}

// lineBehind is the line behind so many samples +0.
func lineBehind(t *testing.T, d impl.Delay, line []float32, count int64) []float32 {
	t.Helper()
	_, last, ok := impl.RunDelay(d, line, make([]float32, count))
	if !ok {
		t.Fatal("RunDelay fails")
	}
	return last
}

// soundingDelay often becomes silent within the limit.
func soundingDelay(i int) (impl.Delay, []float32) {
	n := 1 + mixedBits(500, i)%8
	if i%5 == 0 {
		n = 1 + mixedBits(501, i)%64
	}
	feedback := float32(mixedBits(502, i)%2001)/1000 - 1
	if n > 2 {
		feedback = times(feedback, rawNumber((127-mixedBits(503, i)%64)<<23))
	}
	return impl.Delay{Length: int64(n), Feedback: feedback, Flush: i%2 == 0}, samplesOfStyle(i%3/2*2, 504+i, int(n))
}

func TestPromise4SilenceComesWhenItIsTold(t *testing.T) {
	found, never := 0, 0
	for i := range 2000 {
		d, line := soundingDelay(i)
		count, ok := impl.SilentFrom(d, line)
		if !ok {
			never++
			if areZeros(lineBehind(t, d, line, 256)) {
				t.Errorf("%v: silent behind 256 samples, but this is not told", d)
			}
			continue
		}
		found++
		if !areZeros(lineBehind(t, d, line, count)) {
			t.Errorf("%v: not silent behind %d samples", d, count)
		}
		if count > 0 && areZeros(lineBehind(t, d, line, count-1)) {
			t.Errorf("%v: silent before %d samples", d, count)
		}
	}
	if found < 500 || never < 100 {
		t.Errorf("%d delays become silent, and %d do not", found, never)
	}
}

func TestPromise4SilenceStays(t *testing.T) {
	for i := range 500 {
		d, line := soundingDelay(i)
		count, ok := impl.SilentFrom(d, line)
		if !ok {
			continue
		}
		line = lineBehind(t, d, line, count)
		for _, k := range []float32{0, 1, -1, 0.5, tiny, largest, -largest} {
			d.Dry, d.Wet = -k, 1
			if k != 0 {
				d.Wet = k
			}
			results, last, ok := impl.RunDelay(d, line, make([]float32, 256))
			if !ok || !areZeros(results) || !areZeros(last) {
				t.Errorf("%v sounds again: %v", d, results)
			}
		}
	}
}

func TestPromise4FlushedLinesHaveNoSubnormalTails(t *testing.T) {
	for _, n := range []int64{1, 3, 64} {
		d := impl.Delay{Length: n, Feedback: 0x1p-65, Wet: 1}
		line := repeated(1, int(n))
		wantSamples(t, "two rounds, not flushed", lineBehind(t, d, line, 2*n), true, repeated(0x1p-130, int(n)))
		d.Flush = true
		wantSamples(t, "one round", lineBehind(t, d, line, n), true, repeated(0x1p-65, int(n)))
		wantSamples(t, "two rounds", lineBehind(t, d, line, 2*n), true, repeated(0, int(n)))
	}
}
