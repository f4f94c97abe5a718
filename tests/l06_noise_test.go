package tests

import (
	"math"
	"testing"

	"loop.example/g01170/impl"
)

// noiseOf are right numbers, those at the ends often among them.
func noiseOf(seed, count int) []int64 {
	noise := make([]int64, 2*count)
	for i := range noise {
		switch bits := mixedBits(seed, i); bits % 8 {
		case 0:
			noise[i] = 0
		case 1:
			noise[i] = 255
		default:
			noise[i] = int64(bits>>8) % 256
		}
	}
	return noise
}

func plainNoisy(bits int64, x []float32, noise []int64) []int64 {
	var codes []int64
	for i, sample := range x {
		difference := float64(noise[2*i]) - float64(noise[2*i+1])
		codes = append(codes, plainCode(bits, float64(productOf(bits, sample))+difference/256))
	}
	return codes
}

func wantNoisy(t *testing.T, what string, bits int64, x []float32, noise []int64, want ...int64) {
	t.Helper()
	got, ok := impl.CodesWith(bits, x, noise)
	wantIntegers(t, what, got, ok, want)
}

func TestChapter6NoiseByHand(t *testing.T) {
	wantNoisy(t, "the first one less the second one", 2, []float32{0.125, 0.125}, []int64{192, 0, 0, 192}, 1, 0)
	wantNoisy(t, "each sample has its own", 8, over128(10, 10, 10, 10), []int64{0, 255, 255, 0, 128, 128, 255, 255}, 9, 11, 10, 10)
	wantNoisy(t, "ties", 8, over128(0, 1, 2, 0, -1, -2), []int64{128, 0, 128, 0, 255, 127, 0, 128, 1, 129, 100, 228}, 0, 2, 2, 0, -2, -2)
	wantNoisy(t, "beside ties", 8, over128(0, 1, 2, 0, -1, -2), []int64{129, 0, 127, 0, 255, 126, 0, 129, 0, 127, 0, 129}, 1, 1, 3, -1, -1, -3)
	wantNoisy(t, "within the codes", 8, over128(127, 126.75, -128, -127.75, 200, -200), []int64{255, 0, 255, 0, 0, 255, 0, 255, 0, 255, 255, 0}, 127, 127, -128, -128, 127, -128)
	wantNoisy(t, "away from the ends", 8, over128(127, -128), []int64{0, 255, 255, 0}, 126, -127)
	wantNoisy(t, "a product a bit beyond the codes", 8, over128(127.75, -128.25), []int64{0, 255, 255, 0}, 127, -127)
	wantNoisy(t, "no samples", 8, nil, nil)
}

func TestChapter6NoiseOfEdges(t *testing.T) {
	for _, bits := range allowedBits() {
		m := int64(powerOf(bits))
		x := []float32{infinity, -infinity, notANum, largest, -largest, 0x1p127, -0x1p127}
		for _, pair := range [][2]int64{{0, 0}, {255, 0}, {0, 255}, {255, 255}} {
			var noise []int64
			for range x {
				noise = append(noise, pair[0], pair[1])
			}
			wantNoisy(t, "edges", bits, x, noise, m-1, -m, 0, m-1, -m, m-1, -m)
		}
		wantNoisy(t, "zeros", bits, []float32{0, minus0, 0, minus0}, []int64{255, 0, 0, 255, 0, 255, 255, 0}, 1, -1, -1, 1)
	}
	// Half of a code is a tie, and the sum of it and a number that is far less is the half, in 64-bit numbers.
	wantNoisy(t, "subnormal numbers", 16, []float32{tiny, -tiny, 0x1p-100, -0x1p-100}, []int64{128, 0, 128, 0, 128, 0, 0, 128}, 0, 0, 0, 0)
	wantNoisy(t, "numbers that are not far less", 16, []float32{0x1p-60, -0x1p-60, 0x1p-60}, []int64{128, 0, 128, 0, 0, 128}, 1, 0, 0)
}

func TestChapter6NoiseIsAddedAsWideNumbers(t *testing.T) {
	// The sum is 1.5 - 2^-24, which is no 32-bit number: 1.5 is a nearest one, and a tie.
	product := float32(0.75 - 0x1p-24)
	wantNoisy(t, "below a tie", 3, []float32{product / 4, -product / 4}, []int64{192, 0, 0, 192}, 1, -1)
}

func TestChapter6NoiseIsThatOfTheDocument(t *testing.T) {
	for style := range styles {
		for _, bits := range allowedBits() {
			for i, count := range lengths() {
				x, noise := samplesForCodes(style, 1330+i, count), noiseOf(1340+i, count)
				wantNoisy(t, "noise", bits, x, noise, plainNoisy(bits, x, noise)...)
			}
		}
	}
}

func wantNotNoisy(t *testing.T, what string, bits int64, x []float32, noise []int64) {
	t.Helper()
	codes, ok := impl.CodesWith(bits, x, noise)
	wantNoList(t, what, codes, ok)
}

func TestChapter6WrongNoise(t *testing.T) {
	for _, bits := range allowedBits() {
		for _, wrong := range []int64{-1, 256, 257, -255, 1 << 32, 1<<32 + 1, math.MinInt64, math.MaxInt64} {
			for place := range 6 {
				noise := []int64{0, 255, 1, 2, 255, 0}
				noise[place] = wrong
				wantNotNoisy(t, "a wrong number", bits, []float32{0, 1, notANum}, noise)
			}
		}
		for _, count := range []int{0, 1, 2, 3, 128, 256} {
			for _, wrong := range []int{0, 1, count, 2*count - 2, 2*count - 1, 2*count + 1, 2*count + 2, 1000} {
				if wrong >= 0 && wrong != 2*count {
					wantNotNoisy(t, "too few or too many numbers", bits, make([]float32, count), make([]int64, wrong))
				}
			}
		}
		wantNotNoisy(t, "no noise", bits, []float32{0}, nil)
		wantNotNoisy(t, "too many samples", bits, make([]float32, 257), make([]int64, 514))
		wantNotNoisy(t, "too many samples, and too few numbers", bits, make([]float32, 257), make([]int64, 512))
	}
}

// plainShaped does what the document tells of errors that are carried on, apart from the program.
func plainShaped(bits int64, x []float32, share float32) ([]int64, float32) {
	var codes []int64
	var carried float32
	for _, sample := range x {
		number := plus(productOf(bits, sample), -carried)
		code := plainCode(bits, float64(number))
		codes = append(codes, code)
		carried = times(share, plus(float32(code), -number))
		if math.IsNaN(float64(carried)) || math.IsInf(float64(carried), 0) {
			carried = 0
		}
	}
	return codes, carried
}

func wantShaped(t *testing.T, what string, bits int64, x []float32, share, carried float32, want ...int64) {
	t.Helper()
	got, last, ok := impl.CodesShaped(bits, x, share)
	wantIntegers(t, what, got, ok, want)
	wantNumber(t, what+", the error", last, carried)
}

func TestChapter6ShapedByHand(t *testing.T) {
	quarter := []float32{0.0625, 0.0625, 0.0625, 0.0625}
	wantShaped(t, "quarters of a code", 3, quarter, 1, 0, 0, 0, 1, 0)
	wantShaped(t, "one of them", 3, quarter[:1], 1, -0.25, 0)
	wantShaped(t, "two of them", 3, quarter[:2], 1, -0.5, 0, 0)
	wantShaped(t, "three of them", 3, quarter[:3], 1, 0.25, 0, 0, 1)
	wantShaped(t, "half of the errors", 3, quarter, 0.5, -0.234375, 0, 0, 0, 0)
	wantShaped(t, "twice the errors", 3, quarter, 2, 0.5, 0, 1, 0, 0)
	wantShaped(t, "errors with the other sign", 3, quarter, -1, minus0, 0, 0, 0, 0)
	wantShaped(t, "no errors", 3, quarter, 0, minus0, 0, 0, 0, 0)
	wantShaped(t, "below zero", 3, scaled(quarter, -1), 1, 0, 0, 0, -1, 0)
	wantShaped(t, "beyond the greatest code", 3, []float32{1, 0.5, 0.25, 0}, 1, 0, 3, 3, 1, 0)
	wantShaped(t, "no samples", 3, nil, 1, 0)
}

func TestChapter6ErrorsThatAreNotFinite(t *testing.T) {
	for _, share := range []float32{infinity, -infinity, notANum} {
		wantShaped(t, "a share that is not finite", 8, over128(0.25, 0.25, 1, 1.75), share, 0, 0, 0, 1, 2)
		wantShaped(t, "and no samples", 8, nil, share, 0)
	}
	for _, share := range []float32{1, 0, minus0, 0.5, -1, largest} {
		for _, x := range []float32{infinity, -infinity, notANum} {
			code := plainCode(8, float64(x))
			wantShaped(t, "a sample that is not finite", 8, []float32{x}, share, 0, code)
			want, carried := plainShaped(8, over128(0.25), share)
			wantShaped(t, "and one behind it", 8, []float32{x, 0.25 / 128}, share, carried, append([]int64{code}, want...)...)
		}
	}
	wantShaped(t, "a great share", 8, over128(3.5), largest, largest/2, 4)
	wantShaped(t, "a product out of range", 8, over128(3.5, 0.25, 0.25), largest, -largest/4, 4, -128, 0)
	wantShaped(t, "an error out of range", 8, []float32{-largest, 0}, 1, 0, -128, 0)
	wantShaped(t, "a great error", 8, []float32{0x1p100, 0}, 1, -0x1p107, 127, 127)
}

func TestChapter6ErrorsWithZeros(t *testing.T) {
	wantShaped(t, "a code that is its product", 8, over128(3), 1, 0, 3)
	wantShaped(t, "a share below 0", 8, over128(3), -1, minus0, 3)
	wantShaped(t, "a share of -0", 8, over128(3.25), minus0, 0, 3)
	wantShaped(t, "zeros", 8, []float32{0}, 1, 0, 0)
	wantShaped(t, "zeros with signs", 8, []float32{minus0}, 1, 0, 0)
	wantShaped(t, "zeros with signs, and a share below 0", 8, []float32{minus0, minus0}, -1, minus0, 0, 0)
	wantShaped(t, "a subnormal number", 16, []float32{tiny}, 1, -0x1p-134, 0)
	wantShaped(t, "a subnormal error", 16, []float32{tiny}, 0x1p-15, -tiny, 0)
	wantShaped(t, "an error that is rounded to 0", 16, []float32{tiny}, 0x1p-16, minus0, 0)
}

func TestChapter6ErrorsAreRoundedToNumbers(t *testing.T) {
	// 97.5 less 2^-20 is rounded to the tie 97.5, whose code is 98.
	wantShaped(t, "the number", 8, over128(0x1p-20, 97.5), -1, -0.5, 0, 98)
	// 127 less 2^25 + 4 is rounded to -33554308, and five times this to a multiple of 16.
	wantShaped(t, "the difference", 8, over128(0x1p25+4), 5, -167771536, 127)
	wantShaped(t, "the product", 8, over128(3.75), 1.0/3, 1.0/12, 4)
}

func TestChapter6ShapedAreThoseOfTheDocument(t *testing.T) {
	for style := range styles {
		for _, bits := range allowedBits() {
			for i, count := range lengths() {
				x := samplesForCodes(style, 1350+i, count)
				for _, share := range append(samplesOfStyle(1, 1360+i, 3), 1, 0, -1, 0.9, 0.5, -0.7, 2, infinity, tiny) {
					want, carried := plainShaped(bits, x, share)
					wantShaped(t, "shaped", bits, x, share, carried, want...)
				}
			}
		}
	}
}
