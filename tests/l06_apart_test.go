package tests

import (
	"testing"

	"loop.example/g01170/impl"
)

// rateRow has the check numbers of the texts of what samples become, those of played ones by their kinds.
type rateRow struct {
	scale           float32
	played, back    [3]int64
	folded, last    int64
	raised, lowered int64
}

// rateRows were computed apart from the program.
func rateRows() []rateRow {
	return []rateRow{
		{1, [3]int64{32593, 43475, 64458}, [3]int64{33550, 34908, 26452}, 19637, 34834, 54863, 11224},
		{0x1p-131, [3]int64{4809, 3492, 9053}, [3]int64{45756, 53245, 54147}, 6578, 50865, 27579, 34573},
	}
}

func TestChapter6RatesComputedApart(t *testing.T) {
	for _, want := range rateRows() {
		got := rateRow{scale: want.scale}
		x, taps := scaled(mixedSamples(1700, 256), want.scale), mixedSamples(1701, 32)
		for i, kind := range readKinds() {
			played, _ := impl.PlayAt(kind, x, 1.3, 0.7, 256)
			back, _ := impl.PlayAt(kind, x, 254.9, -0.99, 250)
			got.played[i], got.back[i] = checkOfSamples(t, played), checkOfSamples(t, back)
		}
		folded, last, _ := impl.FoldTaps(taps, scaled(mixedSamples(1702, 31), want.scale), x)
		raised, _ := impl.RaiseBy(8, taps, x[:32])
		lowered, _ := impl.LowerBy(3, taps, x)
		got.folded, got.last = checkOfSamples(t, folded), checkOfSamples(t, last)
		got.raised, got.lowered = checkOfSamples(t, raised), checkOfSamples(t, lowered)
		if got != want {
			t.Errorf("got %v, want %v", got, want)
		}
	}
}

// codeRow has the check numbers of the bytes of 256 codes and of the text of their samples, and the bits of the last error.
type codeRow struct {
	bits                 int64
	plain, noisy, shaped int64
	carried              uint32
	samples, clipped     int64
}

// codeRows were computed apart from the program.
func codeRows() []codeRow {
	return []codeRow{
		{2, 5132, 31276, 64737, 0xbc825d76, 20838, 178},
		{8, 4284, 14569, 19704, 0x3edbdcfc, 644, 111},
		{13, 31246, 46705, 44035, 0xbe9a0a66, 25251, 110},
		{16, 63453, 42720, 64257, 0xbe8ad333, 3762, 110},
	}
}

func checkOfCodes(t *testing.T, codes []int64) int64 {
	t.Helper()
	text, ok := impl.BytesOfCodes(codes)
	if !ok || len(text) != 512 {
		t.Fatalf("%d bytes of %d codes", len(text), len(codes))
	}
	check, _ := impl.CheckOf(0, text)
	return check
}

func TestChapter6CodesComputedApart(t *testing.T) {
	x, noise := scaled(mixedSamples(1703, 256), 1.0/64), make([]int64, 512)
	for i := range noise {
		noise[i] = int64(mixedBits(1704, i) % 256)
	}
	for _, want := range codeRows() {
		plain, _ := impl.CodesOf(want.bits, x)
		noisy, _ := impl.CodesWith(want.bits, x, noise)
		shaped, carried, _ := impl.CodesShaped(want.bits, x, 0.9)
		samples, _ := impl.SamplesOf(want.bits, shaped)
		clipped, _ := impl.CountClipped(want.bits, shaped)
		got := codeRow{want.bits, checkOfCodes(t, plain), checkOfCodes(t, noisy), checkOfCodes(t, shaped), oneBits(carried), checkOfSamples(t, samples), clipped}
		if got != want {
			t.Errorf("got %v, want %v", got, want)
		}
	}
}
