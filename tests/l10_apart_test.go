package tests

import (
	"slices"
	"testing"

	"loop.example/g01170/impl"
)

// meterRow has what meters tell of samples with a scale: bits of numbers, and check numbers of the texts of lists.
type meterRow struct {
	scale            float32
	between          uint32
	runs             int64
	crossings        int64
	differing        uint32
	lag              int64
	least            uint32
	powers           int64
	loudness         uint32
	tenths           int64
	likeness         uint32
	balance          uint32
	spread, heldPeak int64
}

// meterRows were computed apart from the program.
func meterRows() []meterRow {
	return []meterRow{
		{1, 0x43fc3780, 18152, 140, 0x4ab323af, 164, 0x498c8e72, 59487, 0x4677329a, 29302, 0xbd503c6b, 0x3b95e2da, 27218, 43024},
		{0x1p-66, 0x22fc3780, 18152, 140, 0x08b323af, 164, 0x078c8e72, 20295, 0x0477329a, 57478, 0xff800000, 0x3b95e2da, 27218, 7654},
		{0x1p-131, 0x027c3780, 18152, 140, 0x00000000, 10, 0x00000000, 20530, 0x00000000, 1605, 0x7fc00000, 0x00000000, 27218, 46774},
		{0x1p50, 0x5cfc3780, 18152, 140, 0x7cb323af, 164, 0x7b8c8e72, 24393, 0x7877329a, 5806, 0x80000000, 0x3b95e2da, 27218, 63852},
	}
}

func checkOfIntegers(t *testing.T, list []int64) int64 {
	t.Helper()
	text, ok := impl.ListText(list)
	if !ok {
		t.Fatalf("%v has no text", list)
	}
	check, _ := impl.CheckOf(0, text)
	return check
}

func tenthsOfSizes(samples []float32) []int64 {
	var list []int64
	for _, x := range samples {
		tenths, _ := impl.TenthsOf(plainSize(x))
		list = append(list, tenths)
	}
	return list
}

func TestChapter10MetersComputedApart(t *testing.T) {
	for _, want := range meterRows() {
		x, y := scaled(mixedSamples(12700, 256), want.scale), scaled(mixedSamples(12701, 256), want.scale)
		between, _ := impl.PeakBetween(x)
		runs, _ := impl.ClippedRuns(x, 4*want.scale, 3)
		crossings, _ := impl.CrossingsOf(x)
		differing, _ := impl.LagPower(x, 37, 200)
		lag, least, _ := impl.PitchOf(x, 10, 180)
		powers, _ := impl.WindowPowers(x, 16, 5)
		loudness, _ := impl.LoudnessOf(x, 16, 5, 0)
		likeness, _ := impl.LikenessOf(x, y)
		balance, _ := impl.BalanceOf(x, y)
		spread, _ := impl.SpreadOf(scaled(mixedSamples(12700, 256), 1.0/256), 64)
		peaks, _ := impl.HoldPeaks(x, 3*want.scale, 0.9)
		got := meterRow{
			want.scale, oneBits(between), checkOfIntegers(t, slices.Concat(runs...)), crossings, oneBits(differing), lag, oneBits(least),
			checkOfSamples(t, powers), oneBits(loudness), checkOfIntegers(t, tenthsOfSizes(x[:64])), oneBits(likeness), oneBits(balance),
			checkOfIntegers(t, spread), checkOfSamples(t, peaks),
		}
		if got != want {
			t.Errorf("got %v, want %v", got, want)
		}
	}
}
