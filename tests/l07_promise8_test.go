package tests

import (
	"slices"
	"testing"

	"loop.example/g01170/impl"
)

// exactSends have gains with which sums and products of small integers are exact.
func exactSends(seed int, nodes int64, count int) []impl.Send {
	sends := sendsOfStyle(0, seed, nodes, count)
	for i := range sends {
		sends[i].Gain = float32(int(mixedBits(seed, 100+i)%3)) - 1
	}
	return sends
}

func exactInputs(seed int, nodes int64, count int) [][]float32 {
	inputs := make([][]float32, nodes)
	for node := range inputs {
		inputs[node] = make([]float32, count)
		for i := range inputs[node] {
			inputs[node][i] = float32(int(mixedBits(seed+node, i)%201)) - 100
		}
	}
	return inputs
}

func clonedInputs(inputs [][]float32) [][]float32 {
	cloned := make([][]float32, len(inputs))
	for node, input := range inputs {
		cloned[node] = slices.Clone(input)
	}
	return cloned
}

func TestPromise8SignalsAreWhatIsSent(t *testing.T) {
	for nodes := int64(1); nodes <= 8; nodes++ {
		for seed := range 60 {
			sends, inputs := exactSends(2700+seed, nodes, seed%21), exactInputs(2710+seed, nodes, 3)
			signals, ok := impl.MixNodes(inputs, sends)
			if !ok {
				t.Fatalf("no signals of %d nodes and %v", nodes, sends)
			}
			for to := range nodes {
				sums := make([]float32, 3)
				for from := range nodes {
					gain, _ := impl.GainBetween(nodes, sends, from, to)
					for i, x := range inputs[from] {
						sums[i] = plus(sums[i], times(gain, x))
					}
				}
				if !slices.Equal(signals[to], sums) {
					t.Errorf("the signal of %d of %d nodes is %v, but %v is sent", to, nodes, signals[to], sums)
				}
			}
		}
	}
}

func TestPromise8GainsAreThoseOfAllWays(t *testing.T) {
	var waysBetween func(sends []impl.Send, from, to int64) float32
	waysBetween = func(sends []impl.Send, from, to int64) float32 {
		if from == to {
			return 1
		}
		sum := float32(0)
		for _, s := range sends {
			if s.From == from {
				sum = plus(sum, times(s.Gain, waysBetween(sends, s.To, to)))
			}
		}
		return sum
	}
	for nodes := int64(1); nodes <= 8; nodes++ {
		for seed := range 60 {
			sends := exactSends(2800+seed, nodes, seed%21)
			for from := range nodes {
				for to := range nodes {
					gain, ok := impl.GainBetween(nodes, sends, from, to)
					if want := waysBetween(sends, from, to); !ok || gain != want {
						t.Errorf("the gain between %d and %d is %v %v, want %v", from, to, gain, ok, want)
					}
				}
			}
		}
	}
}

func TestPromise8UnusedInputsChangeNothing(t *testing.T) {
	unused := 0
	for style := range styles {
		for nodes := int64(1); nodes <= 8; nodes++ {
			for seed := range 40 {
				sends, inputs := sendsOfStyle(style, 2900+seed, nodes, seed%12), inputsOfStyle(style, 2910+seed, nodes, 5)
				used, ok := impl.UsedNodes(nodes, sends)
				before, also := impl.MixNodes(inputs, sends)
				if !ok || !also {
					t.Fatalf("%d nodes and %v are refused", nodes, sends)
				}
				others := clonedInputs(inputs)
				for node := range nodes {
					if !slices.Contains(used, node) {
						others[node] = []float32{notANum, infinity, -infinity, 1, largest}
						unused++
					}
				}
				after, _ := impl.MixNodes(others, sends)
				wantSamples(t, "the last signal", after[nodes-1], true, before[nodes-1])
			}
		}
	}
	if unused < 1000 {
		t.Errorf("only %d nodes are unused", unused)
	}
}

func TestPromise8UsedInputsAreHeard(t *testing.T) {
	for nodes := int64(1); nodes <= 8; nodes++ {
		for seed := range 60 {
			sends := sendsOfStyle(0, 3000+seed, nodes, seed%21)
			for i := range sends {
				sends[i].Gain = 1
			}
			used, _ := impl.UsedNodes(nodes, sends)
			for node := range nodes {
				gain, ok := impl.GainBetween(nodes, sends, node, nodes-1)
				if !ok || slices.Contains(used, node) != (gain > 0) {
					t.Errorf("the gain between %d and the last one of %d nodes is %v, but %v are used", node, nodes, gain, used)
				}
			}
		}
	}
}

func TestPromise8SendsToUnusedNodesChangeNothing(t *testing.T) {
	for style := range styles {
		for nodes := int64(2); nodes <= 8; nodes++ {
			for seed := range 40 {
				sends, inputs := sendsOfStyle(style, 3100+seed, nodes, seed%21), inputsOfStyle(style, 3110+seed, nodes, 5)
				used, _ := impl.UsedNodes(nodes, sends)
				before, _ := impl.MixNodes(inputs, sends)
				few := slices.DeleteFunc(slices.Clone(sends), func(s impl.Send) bool { return !slices.Contains(used, s.To) })
				after, ok := impl.MixNodes(inputs, few)
				if !ok {
					t.Fatalf("%d nodes and %v are refused", nodes, few)
				}
				for _, node := range used {
					wantSamples(t, "a used signal", after[node], ok, before[node])
				}
				wantUsed(t, "the same nodes are used", nodes, few, used...)
			}
		}
	}
}

func TestPromise8LaterNodesChangeNothing(t *testing.T) {
	for style := range styles {
		sends, inputs := sendsOfStyle(style, 3200, 8, 20), inputsOfStyle(style, 3210, 8, 9)
		all, _ := impl.MixNodes(inputs, sends)
		for nodes := int64(1); nodes <= 8; nodes++ {
			first := slices.DeleteFunc(slices.Clone(sends), func(s impl.Send) bool { return s.To >= nodes })
			wantSignals(t, "the first nodes", inputs[:nodes], first, all[:nodes]...)
		}
	}
}

func TestPromise8OrderOfSendsToDifferentNodes(t *testing.T) {
	for style := range styles {
		for seed := range 40 {
			sends, inputs := sendsOfStyle(style, 3300+seed, 8, 20), inputsOfStyle(style, 3310+seed, 8, 5)
			want, _ := impl.MixNodes(inputs, sends)
			turned := slices.Clone(sends)
			slices.SortStableFunc(turned, func(a, b impl.Send) int { return int(b.To - a.To) })
			wantSignals(t, "the last node first", inputs, turned, want...)
			slices.SortStableFunc(turned, func(a, b impl.Send) int { return int(a.To - b.To) })
			wantSignals(t, "the last node last", inputs, turned, want...)
		}
	}
}

func TestPromise8SignalsAreTheSameForSamplesThatAreCut(t *testing.T) {
	sends, inputs := sendsOfStyle(1, 3400, 8, 20), inputsOfStyle(1, 3410, 8, 256)
	whole, _ := impl.MixNodes(inputs, sends)
	for _, cut := range lengths() {
		var first, second [][]float32
		for _, input := range inputs {
			first, second = append(first, input[:cut]), append(second, input[cut:])
		}
		for node, signal := range whole {
			a, ok := impl.MixNodes(first, sends)
			b, also := impl.MixNodes(second, sends)
			wantSamples(t, "in two parts", slices.Concat(a[node], b[node]), ok && also, signal)
		}
	}
}

// withOthers has other samples, tenths and pans in the tracks that are not heard.
func withOthers(tracks []impl.Track, heard []int64, seed int) []impl.Track {
	changed, others := slices.Clone(tracks), tracksOfStyle(1, seed, len(tracks))
	for i := range changed {
		if !slices.Contains(heard, int64(i)) {
			mute, solo := changed[i].Mute, changed[i].Solo
			changed[i] = others[i]
			changed[i].Mute, changed[i].Solo = mute, solo
		}
	}
	return changed
}

func TestPromise8WhatIsNotHeardChangesNothing(t *testing.T) {
	silent := 0
	for style := range styles {
		for count := range 9 {
			for seed := range 30 {
				tracks := tracksOfStyle(style, 3500+100*count+seed, count)
				heard, ok := impl.HeardTracks(tracks)
				left, right, also := impl.MixTracks(tracks, 50)
				if !ok || !also {
					t.Fatalf("%d tracks are refused", count)
				}
				silent += count - len(heard)
				changed := withOthers(tracks, heard, 4500+seed)
				wantMix(t, "other silent tracks", changed, left, right)
				wantHeard(t, "the same ones are heard", changed, heard...)
				var alone []impl.Track
				for _, i := range heard {
					track := tracks[i]
					track.Solo = !track.Solo
					alone = append(alone, track)
				}
				wantMix(t, "those alone that are heard", alone, left, right)
			}
		}
	}
	if silent < 300 {
		t.Errorf("only %d tracks are silent", silent)
	}
}

func TestPromise8AllSilentTracksAreZeros(t *testing.T) {
	tracks := tracksOfStyle(1, 3600, 8)
	for i := range tracks {
		tracks[i].Mute = true
	}
	wantMix(t, "all are muted", tracks, make([]float32, 256), make([]float32, 256))
	wantHeard(t, "all are muted", tracks)
	tracks[3].Mute, tracks[5].Solo = false, true
	wantMix(t, "one is solo, but muted", tracks, make([]float32, 256), make([]float32, 256))
	wantHeard(t, "one is solo, but muted", tracks)
}

func TestPromise8SamplesThatAreNotAskedChangeNothing(t *testing.T) {
	for style := range styles {
		tracks := tracksOfStyle(style, 3700, 8)
		left, right, _ := impl.MixTracks(tracks, 256)
		for count := range 257 {
			short := slices.Clone(tracks)
			for i, track := range tracks {
				short[i].Samples = track.Samples[:min(count, len(track.Samples))]
			}
			wantMix(t, "fewer are asked", tracks, left[:count], right[:count])
			wantMix(t, "fewer are there", short, left[:count], right[:count])
		}
	}
}

func TestPromise8BothWaysLeadBack(t *testing.T) {
	pairs := [][2]float32{{1000000, 1000000}, {1000000, -1000000}, {-1000000, 999999}, {999999, -1000000}, {0, 0}, {0, 1}, {1, 0}, {-1, 0}, {0, -1000000}}
	for i := range 1000 {
		pairs = append(pairs, [2]float32{float32(mixedBits(3800, i)%2000001) - 1000000, float32(mixedBits(3801, i)%2000001) - 1000000})
	}
	for _, pair := range pairs {
		a, b := pair[:1], pair[1:]
		middle, side, ok := impl.MiddleAndSide(a, b)
		left, right, also := impl.LeftAndRight(middle, side)
		if !ok || !also || !areEqual(left, a) || !areEqual(right, b) {
			t.Errorf("left and right of middle and side of %v are %v and %v", pair, left, right)
		}
		left, right, ok = impl.LeftAndRight(a, b)
		middle, side, also = impl.MiddleAndSide(left, right)
		if !ok || !also || !areEqual(middle, a) || !areEqual(side, b) {
			t.Errorf("middle and side of left and right of %v are %v and %v", pair, middle, side)
		}
	}
}
