package tests

import (
	"math"
	"reflect"
	"slices"
	"testing"

	"loop.example/g01170/impl"
)

func signalsOutcome(signals [][]float32, ok bool) []any { return plain(allLineBits(signals), ok) }

func panOutcome(left, right float32, ok bool) []any { return plain(left, right, ok) }

func guardSends(list []impl.Send) guarded[impl.Send] {
	return guard(list, impl.Send{From: -77}, func(a, b []impl.Send) bool {
		return slices.EqualFunc(a, b, func(s, r impl.Send) bool {
			return s.From == r.From && s.To == r.To && math.Float32bits(s.Gain) == math.Float32bits(r.Gain)
		})
	})
}

func guardPoints(list []impl.Point) guarded[impl.Point] {
	return guard(list, impl.Point{At: -77}, func(a, b []impl.Point) bool {
		return slices.EqualFunc(a, b, func(p, q impl.Point) bool {
			return p.At == q.At && math.Float32bits(p.Value) == math.Float32bits(q.Value)
		})
	})
}

// guardedInputs guards inputs and their list.
type guardedInputs struct {
	list  [][]float32
	inner []guarded[float32]
	outer guarded[[]float32]
}

func guardInputs(inputs [][]float32) guardedInputs {
	var g guardedInputs
	var lists [][]float32
	for _, input := range inputs {
		g.inner = append(g.inner, guardNumbers(input))
		lists = append(lists, g.inner[len(g.inner)-1].list)
	}
	g.outer = guard(lists, []float32{-77}, isSameMemory)
	g.list = g.outer.list
	return g
}

func (g guardedInputs) isUntouched() bool {
	isTouched := func(input guarded[float32]) bool { return !input.isUntouched() }
	return g.outer.isUntouched() && !slices.ContainsFunc(g.inner, isTouched)
}

// guardedTracks guards tracks and their samples.
type guardedTracks struct {
	list    []impl.Track
	samples guardedInputs
	outer   guarded[impl.Track]
}

func samplesOfTracks(tracks []impl.Track) [][]float32 {
	var lists [][]float32
	for _, track := range tracks {
		lists = append(lists, track.Samples)
	}
	return lists
}

func isSameTrack(a, b impl.Track) bool {
	samePan := math.Float32bits(a.Pan) == math.Float32bits(b.Pan)
	sameSamples := isSameMemory([][]float32{a.Samples}, [][]float32{b.Samples})
	return samePan && sameSamples && a.Tenths == b.Tenths && a.Mute == b.Mute && a.Solo == b.Solo
}

func guardTracks(tracks []impl.Track) guardedTracks {
	g := guardedTracks{samples: guardInputs(samplesOfTracks(tracks))}
	list := slices.Clone(tracks)
	for i, samples := range g.samples.list {
		list[i].Samples = samples
	}
	same := func(a, b []impl.Track) bool { return slices.EqualFunc(a, b, isSameTrack) }
	g.outer = guard(list, impl.Track{Tenths: -77}, same)
	g.list = g.outer.list
	return g
}

func (g guardedTracks) isUntouched() bool { return g.outer.isUntouched() && g.samples.isUntouched() }

func anySends() [][]impl.Send {
	list := [][]impl.Send{
		nil, {}, {{From: 0, To: 0}}, {{From: 1, To: 0, Gain: 1}}, {{From: 0, To: 1, Gain: notANum}}, {{From: 0, To: 7, Gain: infinity}},
		{{From: math.MinInt64, To: math.MaxInt64}}, make([]impl.Send, 20), make([]impl.Send, 21), make([]impl.Send, 100000),
	}
	for nodes := int64(2); nodes <= 8; nodes++ {
		for style := range styles {
			list = append(list, sendsOfStyle(style, 3900+style, nodes, 20), sendsOfStyle(style, 3910+style, nodes, 5), sendsOfStyle(style, 3920+style, nodes, 21))
		}
	}
	return list
}

func anyNodes() []int64 { return append(wrongNodes(), 1, 2, 3, 4, 5, 6, 7, 8) }

func anyInputs() [][][]float32 {
	list := [][][]float32{nil, {}, {nil}, {{}, nil}, {{1}, {2, 3}}, {{1}, nil}, make([][]float32, 8), make([][]float32, 9), make([][]float32, 1000)}
	for nodes := int64(1); nodes <= 9; nodes++ {
		for k, count := range []int{0, 1, 17, 256, 257} {
			list = append(list, inputsOfStyle(k%styles, 3930+count, nodes, count))
		}
	}
	return list
}

func TestPromise1Nodes(t *testing.T) {
	for _, list := range anySends() {
		sends := guardSends(list)
		for _, nodes := range anyNodes() {
			wantTwice(t, "functions of sends", func() []any {
				return slices.Concat(plain(impl.AreSends(nodes, sends.list)), outcome(impl.UsedNodes(nodes, sends.list)))
			})
			for _, from := range []int64{0, 1, 7, nodes, -1, math.MinInt64, math.MaxInt64} {
				for _, to := range []int64{0, 1, nodes - 1, nodes, math.MaxInt64} {
					wantTwice(t, "GainBetween", func() []any { return outcome(impl.GainBetween(nodes, sends.list, from, to)) })
				}
			}
		}
		for _, lists := range anyInputs() {
			inputs := guardInputs(lists)
			wantTwice(t, "MixNodes", func() []any { return signalsOutcome(impl.MixNodes(inputs.list, sends.list)) })
			if !inputs.isUntouched() {
				t.Errorf("the inputs of %d nodes were modified", len(lists))
			}
		}
		if !sends.isUntouched() {
			t.Errorf("%d sends were modified", len(list))
		}
	}
}

func anyLanes() [][]impl.Point {
	list := [][]impl.Point{
		nil, {}, pointsAt(0), pointsAt(100000), pointsAt(100001), pointsAt(-1), pointsAt(0, 100000), pointsAt(3, 3), pointsAt(4, 3),
		pointsAt(math.MinInt64, math.MaxInt64), make([]impl.Point, 12), make([]impl.Point, 13), make([]impl.Point, 100000),
	}
	for count := 1; count <= 13; count++ {
		list = append(list, laneOfStyle(count%styles, 3940+count, count))
	}
	return list
}

func TestPromise1Lanes(t *testing.T) {
	places := append(anyIntegers(), 3, 99744, 99745, 99746, 99999, 100000, 100001, math.MaxInt64-255, math.MaxInt64-1)
	for _, list := range anyLanes() {
		points := guardPoints(list)
		wantTwice(t, "IsLane", func() []any { return plain(impl.IsLane(points.list)) })
		for _, at := range places {
			wantTwice(t, "LaneAt", func() []any { return outcome(impl.LaneAt(points.list, at)) })
			for _, count := range []int64{0, 1, 2, 255, 256, 257, -1, 1 << 32, math.MaxInt64, math.MinInt64} {
				wantTwice(t, "RunLane", func() []any { return outcome(impl.RunLane(points.list, at, count)) })
			}
			for _, samples := range anyLists() {
				x := guardNumbers(samples)
				wantTwice(t, "ApplyLane", func() []any { return outcome(impl.ApplyLane(points.list, at, x.list)) })
				if !x.isUntouched() {
					t.Errorf("%d samples were modified", len(samples))
				}
			}
		}
		if !points.isUntouched() {
			t.Errorf("%d points were modified", len(list))
		}
	}
}

func anyTracks() [][]impl.Track {
	list := [][]impl.Track{nil, {}, make([]impl.Track, 8), make([]impl.Track, 9), make([]impl.Track, 10000), wrongTracks()}
	for _, wrong := range wrongTracks() {
		list = append(list, []impl.Track{{Samples: []float32{1, 2}}, wrong, {Solo: true}})
	}
	for count := 1; count <= 9; count++ {
		list = append(list, tracksOfStyle(count%styles, 3950+count, count))
	}
	return append(list, []impl.Track{{Samples: mixedSamples(1, 256)}, {Samples: edgeNumbers(), Pan: 1, Tenths: 2000}})
}

func TestPromise1Tracks(t *testing.T) {
	for _, list := range anyTracks() {
		tracks := guardTracks(list)
		wantTwice(t, "functions of tracks", func() []any {
			return slices.Concat(plain(impl.AreTracks(tracks.list)), outcome(impl.HeardTracks(tracks.list)))
		})
		for _, count := range anyCounts() {
			wantTwice(t, "MixTracks", func() []any { return pairOutcome(impl.MixTracks(tracks.list, count)) })
		}
		if !tracks.isUntouched() {
			t.Errorf("%d tracks were modified", len(list))
		}
	}
	for i := range 1000 {
		pan := rawNumber(mixedBits(3960, i))
		wantTwice(t, "PanOf", func() []any { return panOutcome(impl.PanOf(pan)) })
	}
	for _, pan := range edgeNumbers() {
		wantTwice(t, "PanOf", func() []any { return panOutcome(impl.PanOf(pan)) })
	}
}

func TestPromise1Sides(t *testing.T) {
	for _, first := range anyLists() {
		a := guardNumbers(first)
		for _, second := range append(anyLists(), samplesOfStyle(3, 3970, len(first))) {
			b := guardNumbers(second)
			wantTwice(t, "middle and side, left and right", func() []any {
				return slices.Concat(pairOutcome(impl.MiddleAndSide(a.list, b.list)), pairOutcome(impl.LeftAndRight(a.list, b.list)))
			})
			if !a.isUntouched() || !b.isUntouched() {
				t.Errorf("%d or %d numbers were modified", len(first), len(second))
			}
		}
	}
}

func TestPromise1BusesShareNoMemory(t *testing.T) {
	for _, count := range []int{0, 1, 8, 9, 256} {
		for _, nodes := range []int64{1, 2, 8} {
			inputs := guardInputs(inputsOfStyle(0, 3980, nodes, count))
			tracks := guardTracks([]impl.Track{{Samples: mixedSamples(3990, count)}, {Samples: mixedSamples(3991, count), Pan: 1}}[:min(2, nodes)])
			a, b := guardNumbers(mixedSamples(3992, count)), guardNumbers(mixedSamples(3993, count))
			signals, _ := impl.MixNodes(inputs.list, nil)
			again, _ := impl.MixNodes(inputs.list, sendsOfStyle(0, 3994, nodes, 20))
			left, right, _ := impl.MixTracks(tracks.list, int64(count))
			plainLeft, plainRight, _ := impl.MixTracks(nil, int64(count))
			middle, side, _ := impl.MiddleAndSide(a.list, b.list)
			sums, differences, _ := impl.LeftAndRight(a.list, b.list)
			values, _ := impl.RunLane(pointsAt(0), 0, int64(count))
			applied, _ := impl.ApplyLane(pointsAt(0), 0, a.list)
			lists := slices.Concat(signals, again, [][]float32{left, right, plainLeft, plainRight, middle, side, sums, differences, values, applied})
			wantOwnMemory(t, "buses", lists...)
			if !inputs.isUntouched() || !tracks.isUntouched() || !a.isUntouched() || !b.isUntouched() {
				t.Errorf("a result of %d samples and %d nodes shares memory with an argument", count, nodes)
			}
		}
	}
}

func TestPromise1SetsShareNoMemory(t *testing.T) {
	sends, tracks := guardSends(sendsOfStyle(0, 3995, 8, 20)), guardTracks(make([]impl.Track, 8))
	for i, call := range []func() []int64{
		func() []int64 { used, _ := impl.UsedNodes(8, sends.list); return used },
		func() []int64 { heard, _ := impl.HeardTracks(tracks.list); return heard },
	} {
		first, second := call(), call()
		want := slices.Clone(second)
		clear(first[:cap(first)])
		if len(want) < 2 || !slices.Equal(second, want) || !slices.Equal(call(), want) || !sends.isUntouched() || !tracks.isUntouched() {
			t.Errorf("the sets of call %d share memory", i)
		}
	}
}

func TestPromise1BusesOfNilAndEmptyLists(t *testing.T) {
	none, sends, tracks := []float32{}, []impl.Send{}, []impl.Track{}
	for i, pair := range [][2][]any{
		{plain(impl.AreSends(3, nil)), plain(impl.AreSends(3, sends))},
		{outcome(impl.UsedNodes(3, nil)), outcome(impl.UsedNodes(3, sends))},
		{outcome(impl.GainBetween(3, nil, 1, 1)), outcome(impl.GainBetween(3, sends, 1, 1))},
		{signalsOutcome(impl.MixNodes([][]float32{nil, none}, nil)), signalsOutcome(impl.MixNodes([][]float32{none, nil}, sends))},
		{outcome(impl.ApplyLane(pointsAt(3), 5, nil)), outcome(impl.ApplyLane(pointsAt(3), 5, none))},
		{plain(impl.AreTracks(nil)), plain(impl.AreTracks(tracks))},
		{outcome(impl.HeardTracks(nil)), outcome(impl.HeardTracks(tracks))},
		{pairOutcome(impl.MixTracks(nil, 3)), pairOutcome(impl.MixTracks(tracks, 3))},
		{pairOutcome(impl.MixTracks([]impl.Track{{}}, 3)), pairOutcome(impl.MixTracks([]impl.Track{{Samples: none}}, 3))},
		{pairOutcome(impl.MiddleAndSide(nil, none)), pairOutcome(impl.MiddleAndSide(none, nil))},
		{pairOutcome(impl.LeftAndRight(nil, none)), pairOutcome(impl.LeftAndRight(none, nil))},
	} {
		if !reflect.DeepEqual(pair[0], pair[1]) || pair[0][len(pair[0])-1] != true {
			t.Errorf("pair %d: %v and %v", i, pair[0], pair[1])
		}
	}
	if impl.IsLane(nil) || impl.IsLane([]impl.Point{}) {
		t.Errorf("no points are a lane")
	}
	if signals, ok := impl.MixNodes([][]float32{}, sends); ok || len(signals) != 0 {
		t.Errorf("no nodes have signals")
	}
}
