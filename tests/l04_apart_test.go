package tests

import (
	"testing"

	"loop.example/g01170/impl"
)

// dynamicRow has the check numbers of the texts of what 256 samples become, and the bits of the root of their mean.
type dynamicRow struct {
	scale                    float32
	levels, squeezed, ducked int64
	limited, limiter, nearby int64
	faded, bent              int64
	root                     uint32
}

// dynamicRows were computed apart from the program.
func dynamicRows() []dynamicRow {
	return []dynamicRow{
		{1, 36358, 26101, 950, 55807, 33962, 6565, 20771, 56457, 0x42e0a94b},
		{0x1p-131, 21533, 53584, 46866, 60539, 50122, 57682, 63989, 50660, 0x00000000},
	}
}

func limitedRow(t *testing.T, row dynamicRow, x []float32) dynamicRow {
	t.Helper()
	l, _ := impl.NewLimiter(times(20, row.scale), 0.01, 0)
	nearby, _, _ := impl.RunLimiter(l, x)
	l.Ahead = scaled(mixedSamples(322, 64), row.scale)
	limited, l, _ := impl.RunLimiter(l, x)
	row.limited, row.limiter, row.nearby = checkOfSamples(t, limited), checkOfSamples(t, limiterNumbers(l)), checkOfSamples(t, nearby)
	return row
}

func followedRow(t *testing.T, row dynamicRow, x, side []float32) dynamicRow {
	t.Helper()
	s := squeezeOf([]float32{0.3, 0.05, 0, times(0.7, row.scale), 3})
	levels, _, _ := impl.FollowLevel(s.Follower, x)
	squeezed, _, _ := impl.RunSqueeze(s, x)
	s.Follower.Attack = 0.4
	ducked, _, _ := impl.DuckSamples(s, x, side)
	row.levels, row.squeezed, row.ducked = checkOfSamples(t, levels), checkOfSamples(t, squeezed), checkOfSamples(t, ducked)
	return row
}

func shapedRow(t *testing.T, row dynamicRow, x []float32) dynamicRow {
	t.Helper()
	faded, _ := impl.FadeSamples(x, 0.9, 0.2)
	bent := scaled(x, 0x1p-8)
	for i, y := range bent {
		bent[i] = impl.BendSample(y)
	}
	root, _ := impl.RootMean(x)
	row.faded, row.bent, row.root = checkOfSamples(t, faded), checkOfSamples(t, bent), oneBits(root)
	return row
}

func TestChapter4ComputedApart(t *testing.T) {
	for _, want := range dynamicRows() {
		x, side := scaled(mixedSamples(320, 256), want.scale), scaled(mixedSamples(321, 256), want.scale)
		got := shapedRow(t, limitedRow(t, followedRow(t, dynamicRow{scale: want.scale}, x, side), x), x)
		if got != want {
			t.Errorf("got %v, want %v", got, want)
		}
	}
}
