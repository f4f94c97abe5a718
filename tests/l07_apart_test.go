package tests

import (
	"testing"

	"loop.example/g01170/impl"
)

// busRow has the check numbers of the texts of signals, lanes, mixes and their sides, and the bits of a gain between nodes.
type busRow struct {
	scale           float32
	signals         [8]int64
	gain            uint32
	values, applied int64
	mix             [2]int64
	sides           [4]int64
}

// busRows were computed apart from the program.
func busRows() []busRow {
	return []busRow{
		{1, [8]int64{10954, 37000, 57502, 49801, 11055, 15108, 26411, 32180}, 0x4038688d, 63085, 52993, [2]int64{7884, 9543}, [4]int64{33718, 48723, 30662, 14877}},
		{0x1p-131, [8]int64{47224, 55223, 20282, 3007, 12257, 42772, 27399, 9632}, 0x4038688d, 54159, 49033, [2]int64{5991, 3665}, [4]int64{35044, 33893, 33741, 10378}},
	}
}

func networkRow(t *testing.T, row busRow) busRow {
	t.Helper()
	sends, inputs := sendsOfStyle(0, 2400, 8, 20), make([][]float32, 8)
	for node := range inputs {
		inputs[node] = scaled(mixedSamples(2410+node, 256), row.scale)
	}
	signals, ok := impl.MixNodes(inputs, sends)
	if !ok {
		t.Fatal("no signals")
	}
	for node, signal := range signals {
		row.signals[node] = checkOfSamples(t, signal)
	}
	gain, _ := impl.GainBetween(8, sends, 0, 7)
	row.gain = oneBits(gain)
	wantUsed(t, "the used nodes", 8, sends, 0, 1, 3, 5, 7)
	return row
}

func laneRow(t *testing.T, row busRow) busRow {
	t.Helper()
	points := make([]impl.Point, 12)
	for i, value := range scaled(mixedSamples(2420, 12), row.scale) {
		points[i] = impl.Point{At: int64(10 + 20*i + i*i), Value: value}
	}
	values, _ := impl.RunLane(points, 3, 256)
	applied, _ := impl.ApplyLane(points, 100, mixedSamples(2421, 256))
	row.values, row.applied = checkOfSamples(t, values), checkOfSamples(t, applied)
	return row
}

func mixRow(t *testing.T, row busRow) busRow {
	t.Helper()
	tracks := make([]impl.Track, 8)
	for i := range tracks {
		samples := scaled(mixedSamples(2430+i, 256-i*30), row.scale)
		tracks[i] = impl.Track{Samples: samples, Tenths: int64(200*i - 700), Pan: over(float32(i), 7), Mute: i == 3}
	}
	left, right, _ := impl.MixTracks(tracks, 256)
	middle, side, _ := impl.MiddleAndSide(left, right)
	sums, differences, _ := impl.LeftAndRight(left, right)
	row.mix = [2]int64{checkOfSamples(t, left), checkOfSamples(t, right)}
	row.sides = [4]int64{checkOfSamples(t, middle), checkOfSamples(t, side), checkOfSamples(t, sums), checkOfSamples(t, differences)}
	return row
}

func TestChapter7BusesComputedApart(t *testing.T) {
	for _, want := range busRows() {
		got := mixRow(t, laneRow(t, networkRow(t, busRow{scale: want.scale})))
		if got != want {
			t.Errorf("got %v, want %v", got, want)
		}
	}
}
