package tests

import (
	"math"
	"slices"
	"testing"

	"loop.example/g01170/impl"
)

// samplesOfStyle are plain ones, ones with edges among them, ones near the subnormal numbers, or any bits.
func samplesOfStyle(style, seed, count int) []float32 {
	list, edges := mixedSamples(seed, count), edgeNumbers()
	for i := range list {
		switch bits := mixedBits(seed, 1000+i); style {
		case 1:
			if bits%4 == 0 {
				list[i] = edges[bits/4%uint32(len(edges))]
			}
		case 2:
			list[i] = times(list[i], 0x1p-127)
		case 3:
			list[i] = rawNumber(bits)
		}
	}
	return list
}

const styles = 4

// gainsOfStyle are mostly less than 1, so that what goes round becomes softer.
func gainsOfStyle(style, seed, count int) []float32 {
	list := samplesOfStyle(style%2, seed, count)
	for i, x := range list {
		if x > 1 || x < -1 {
			list[i] = times(x, 0x1p-8)
		}
	}
	return list
}

// plainDelay does what the document tells of delays, apart from the program.
func plainDelay(d impl.Delay, line, x []float32) ([]float32, []float32) {
	kept := slices.Clone(line)
	var results []float32
	for _, sample := range x {
		b := kept[0]
		results = append(results, plus(times(d.Dry, sample), times(d.Wet, b)))
		kept = append(kept[1:], flushedIf(d.Flush, plus(sample, times(d.Feedback, b))))
	}
	return results, kept
}

func plainPass(p impl.Pass, line, x []float32) ([]float32, []float32) {
	kept := slices.Clone(line)
	var results []float32
	for _, sample := range x {
		b := kept[0]
		v := plus(sample, times(p.Gain, b))
		results = append(results, plus(b, -times(p.Gain, v)))
		kept = append(kept[1:], v)
	}
	return results, kept
}

func wantDelay(t *testing.T, what string, d impl.Delay, line, x, want, last []float32) {
	t.Helper()
	got, kept, ok := impl.RunDelay(d, line, x)
	wantSamples(t, what, got, ok, want)
	wantSamples(t, what+", the line", kept, ok, last)
}

func wantPass(t *testing.T, what string, p impl.Pass, line, x, want, last []float32) {
	t.Helper()
	got, kept, ok := impl.RunPass(p, line, x)
	wantSamples(t, what, got, ok, want)
	wantSamples(t, what+", the line", kept, ok, last)
}

func wrongLengths() []int64 {
	return []int64{0, -1, 65, 100, 1 << 32, 1<<32 + 1, math.MinInt64, math.MaxInt64}
}

func TestChapter3EmptyLines(t *testing.T) {
	for n := int64(1); n <= 64; n++ {
		line, ok := impl.EmptyLine(n)
		wantSamples(t, "EmptyLine", line, ok, repeated(0, int(n)))
	}
	for _, n := range wrongLengths() {
		line, ok := impl.EmptyLine(n)
		wantNoList(t, "EmptyLine", line, ok)
	}
}

func TestChapter3ValidDelays(t *testing.T) {
	for _, x := range edgeNumbers() {
		for _, flush := range []bool{false, true} {
			for n := int64(1); n <= 64; n++ {
				if !impl.ValidDelay(impl.Delay{Length: n, Feedback: x, Dry: x, Wet: x, Flush: flush}) {
					t.Errorf("a delay with the length %d and numbers %v is not valid", n, x)
				}
			}
			for _, n := range wrongLengths() {
				if impl.ValidDelay(impl.Delay{Length: n, Feedback: x, Dry: x, Wet: x, Flush: flush}) {
					t.Errorf("a delay with the length %d and numbers %v is valid", n, x)
				}
			}
		}
	}
}

func TestChapter3DelaysByHand(t *testing.T) {
	d := impl.Delay{Length: 2, Feedback: 0.5, Dry: 1, Wet: 1}
	wantDelay(t, "the example", d, []float32{0, 0}, []float32{1, 0, 0, 0, 0}, []float32{1, 0, 1, 0, 0.5}, []float32{0, 0.25})
	d = impl.Delay{Length: 3, Feedback: 2, Dry: 10, Wet: 100}
	wantDelay(t, "the oldest number comes first", d, []float32{1, 2, 3}, []float32{4}, []float32{140}, []float32{2, 3, 6})
	wantDelay(t, "two samples", d, []float32{1, 2, 3}, []float32{4, 5}, []float32{140, 250}, []float32{3, 6, 9})
	wantDelay(t, "around the line", d, []float32{1, 2, 3}, []float32{4, 5, 6, 7}, []float32{140, 250, 360, 670}, []float32{9, 12, 19})
	wantDelay(t, "no samples", d, []float32{1, 2, 3}, nil, nil, []float32{1, 2, 3})
	wantDelay(t, "both zeros", impl.Delay{Length: 1, Feedback: 1, Dry: 1, Wet: 1}, []float32{minus0}, []float32{minus0, 0, minus0},
		[]float32{minus0, 0, 0}, []float32{0})
}

func TestChapter3LinesOfOneNumber(t *testing.T) {
	x := mixedSamples(1, 256)
	only := impl.Delay{Length: 1, Wet: 1}
	wantDelay(t, "what it took in the step before", only, []float32{7}, x, append([]float32{7}, x[:255]...), x[255:])
	wantDelay(t, "each one is halved", impl.Delay{Length: 1, Feedback: 0.5, Wet: 1}, []float32{8}, make([]float32, 4),
		[]float32{8, 4, 2, 1}, []float32{0.5})
	wantPass(t, "a pass", impl.Pass{Length: 1, Gain: 0.5}, []float32{0}, []float32{1, 0, 0}, []float32{-0.5, 0.75, 0.375}, []float32{0.25})
	wantPass(t, "a pass without a gain", impl.Pass{Length: 1}, []float32{7}, x, append([]float32{7}, x[:255]...), x[255:])
}

func TestChapter3LinesOfAllLengths(t *testing.T) {
	for n := 1; n <= 64; n++ {
		for i, count := range []int{0, 1, n - 1, n, n + 1, 2*n + 1, 255, 256} {
			for style := range styles {
				seed := 64*n + 8*i + style
				k := gainsOfStyle(style, seed, 4)
				line, x := samplesOfStyle(style, seed+1, n), samplesOfStyle(style, seed+2, count)
				for _, flush := range []bool{false, true} {
					d := impl.Delay{Length: int64(n), Feedback: k[0], Dry: k[1], Wet: k[2], Flush: flush}
					want, last := plainDelay(d, line, x)
					wantDelay(t, "a delay", d, line, x, want, last)
				}
				p := impl.Pass{Length: int64(n), Gain: k[3]}
				want, last := plainPass(p, line, x)
				wantPass(t, "a pass", p, line, x, want, last)
			}
		}
	}
}

// lineRow has the check numbers of the texts of 256 results and of the line behind them.
type lineRow struct {
	length                   int64
	scale                    float32
	plain, plainLine         int64
	flushed, flushedLine     int64
	passResult, passLastLine int64
}

// lineRows were computed apart from the program.
func lineRows() []lineRow {
	return []lineRow{
		{1, 1, 29659, 52187, 29659, 52187, 59248, 25429},
		{1, 0x1p-131, 62475, 58384, 10135, 1209, 20217, 58405},
		{2, 1, 25243, 62507, 25243, 62507, 56909, 59133},
		{2, 0x1p-131, 44651, 6352, 61341, 39890, 55459, 33681},
		{3, 1, 38729, 42628, 38729, 42628, 57172, 26925},
		{3, 0x1p-131, 55517, 1578, 60336, 28051, 23253, 7199},
		{17, 1, 17575, 43278, 17575, 43278, 38527, 59908},
		{17, 0x1p-131, 1644, 12584, 9572, 45732, 47461, 5039},
		{63, 1, 37529, 22667, 37529, 22667, 64158, 13278},
		{63, 0x1p-131, 35023, 14190, 40937, 8394, 19425, 40677},
		{64, 1, 51613, 15485, 51613, 15485, 36197, 1906},
		{64, 0x1p-131, 17761, 42324, 26294, 61521, 28773, 34131},
	}
}

func TestChapter3LinesComputedApart(t *testing.T) {
	for _, row := range lineRows() {
		line, x := scaled(mixedSamples(300, int(row.length)), row.scale), scaled(mixedSamples(301, 256), row.scale)
		d := impl.Delay{Length: row.length, Feedback: -0.7, Dry: 0.6, Wet: 0.8}
		p := impl.Pass{Length: row.length, Gain: 0.7}
		plain, plainLine, _ := impl.RunDelay(d, line, x)
		d.Flush = true
		flushed, flushedLine, _ := impl.RunDelay(d, line, x)
		passed, passLine, _ := impl.RunPass(p, line, x)
		got := lineRow{row.length, row.scale, checkOfSamples(t, plain), checkOfSamples(t, plainLine),
			checkOfSamples(t, flushed), checkOfSamples(t, flushedLine), checkOfSamples(t, passed), checkOfSamples(t, passLine)}
		if got != row {
			t.Errorf("got %v, want %v", got, row)
		}
	}
}

func TestChapter3ProductsOfLinesAreRoundedOnTheirOwn(t *testing.T) {
	x := 1 + float32(1)/4096
	square := 1 + float32(1)/2048 // The product of x and x is this and 2^-24, which is rounded away.
	wantDelay(t, "Dry", impl.Delay{Length: 1, Dry: x, Wet: -1}, []float32{square}, []float32{x}, []float32{0}, []float32{x})
	wantDelay(t, "Wet", impl.Delay{Length: 1, Dry: -1, Wet: x}, []float32{x}, []float32{square}, []float32{0}, []float32{square})
	wantDelay(t, "Feedback", impl.Delay{Length: 1, Feedback: x}, []float32{x}, []float32{-square}, []float32{0}, []float32{0})
	wantPass(t, "g b", impl.Pass{Length: 1, Gain: x}, []float32{x}, []float32{-square}, []float32{x}, []float32{0})
	wantPass(t, "g v", impl.Pass{Length: 1, Gain: x}, []float32{square}, []float32{-float32(1)/2048 - float32(1)/8388608}, []float32{0}, []float32{x})
}

func TestChapter3FlushedLines(t *testing.T) {
	below, least, half := rawNumber(0x807fffff), float32(0x1p-126), float32(0x1p-127)
	d := impl.Delay{Length: 1, Feedback: 0.5, Dry: 1, Wet: 1, Flush: true}
	wantDelay(t, "the sum is flushed", d, []float32{least}, []float32{0}, []float32{least}, []float32{0})
	wantDelay(t, "with its sign", d, []float32{-least}, []float32{minus0}, []float32{-least}, []float32{minus0})
	wantDelay(t, "but not what is added", d, []float32{least}, []float32{half}, []float32{least + half}, []float32{least})
	wantDelay(t, "nor the results", d, []float32{tiny}, []float32{below}, []float32{below + tiny}, []float32{minus0})
	wantDelay(t, "a sample that is subnormal", d, []float32{0}, []float32{tiny}, []float32{tiny}, []float32{0})
	wantDelay(t, "the least normal number stays", d, []float32{0}, []float32{-least}, []float32{-least}, []float32{-least})
	d.Length = 2
	wantDelay(t, "numbers stay until they are taken out", d, []float32{1, tiny}, []float32{1}, []float32{2}, []float32{tiny, 1.5})
	wantDelay(t, "no samples, no flushing", d, []float32{tiny, below}, nil, nil, []float32{tiny, below})
	d = impl.Delay{Length: 1, Feedback: 0.5, Dry: 1, Wet: 1}
	wantDelay(t, "not flushed", d, []float32{least}, []float32{0}, []float32{least}, []float32{half})
	wantDelay(t, "not flushed, with its sign", d, []float32{0}, []float32{below}, []float32{below}, []float32{below})
	wantPass(t, "a pass is not flushed", impl.Pass{Length: 1, Gain: 0.5}, []float32{least}, []float32{0}, []float32{0.75 * least}, []float32{half})
}

func TestChapter3LinesWithInfinities(t *testing.T) {
	d := impl.Delay{Length: 1, Feedback: 1, Dry: 1, Wet: 1}
	wantDelay(t, "an infinity", d, []float32{infinity}, []float32{1, -infinity}, []float32{infinity, notANum}, []float32{notANum})
	wantDelay(t, "out of range", d, []float32{largest}, []float32{largest}, []float32{infinity}, []float32{infinity})
	wantDelay(t, "no product is left out", impl.Delay{Length: 1}, []float32{infinity}, []float32{1}, []float32{notANum}, []float32{notANum})
	wantDelay(t, "a not-a-number", impl.Delay{Length: 2, Wet: 1}, []float32{1, 2}, []float32{notANum, 0}, []float32{notANum, 2}, []float32{notANum, 0})
	wantPass(t, "an infinity in a pass", impl.Pass{Length: 1, Gain: 0.5}, []float32{infinity}, []float32{0}, []float32{notANum}, []float32{infinity})
	wantPass(t, "a gain 0", impl.Pass{Length: 1}, []float32{1}, []float32{infinity}, []float32{notANum}, []float32{infinity})
}

func wantNoDelay(t *testing.T, what string, length int64, line, x []float32) {
	t.Helper()
	results, last, ok := impl.RunDelay(impl.Delay{Length: length, Feedback: 0.5, Dry: 1, Wet: 1}, line, x)
	wantNoList(t, what, results, ok)
	wantNoList(t, what, last, ok)
	results, last, ok = impl.RunPass(impl.Pass{Length: length, Gain: 0.5}, line, x)
	wantNoList(t, what+" of a pass", results, ok)
	wantNoList(t, what+" of a pass", last, ok)
}

func TestChapter3WrongLines(t *testing.T) {
	for _, x := range [][]float32{nil, {1, 2}} {
		for _, n := range wrongLengths() {
			for _, count := range []int{0, 1, 64, 65, 100} {
				wantNoDelay(t, "a wrong length", n, make([]float32, count), x)
			}
		}
		for _, n := range []int64{1, 2, 63, 64} {
			for count := range 70 {
				if int64(count) != n {
					wantNoDelay(t, "a line of another length", n, make([]float32, count), x)
				}
			}
			wantNoDelay(t, "no line", n, nil, x)
		}
	}
}

func TestChapter3TooManySamples(t *testing.T) {
	for _, count := range []int{257, 1000} {
		for _, n := range []int{1, 2, 64} {
			wantNoDelay(t, "too many samples", int64(n), make([]float32, n), make([]float32, count))
		}
	}
}
