package tests

import (
	"math"
	"slices"
	"testing"

	"loop.example/g01170/impl"
)

func allowedBits() []int64 {
	var list []int64
	for bits := int64(2); bits <= 16; bits++ {
		list = append(list, bits)
	}
	return list
}

func wrongBits() []int64 {
	return []int64{1, 17, 0, -1, -16, 32, 64, 65, 1<<32 + 8, math.MinInt64, math.MaxInt64}
}

// powerOf is m, by which samples are multiplied.
func powerOf(bits int64) float64 { return math.Pow(2, float64(bits-1)) }

// plainCode does what the document tells of a product, apart from the program.
func plainCode(bits int64, product float64) int64 {
	m := powerOf(bits)
	switch {
	case math.IsNaN(product):
		return 0
	case product >= m-1:
		return int64(m - 1)
	case product <= -m:
		return int64(-m)
	}
	below := math.Floor(product)
	if share := product - below; share > 0.5 || share == 0.5 && math.Mod(below, 2) != 0 {
		below++
	}
	return int64(below)
}

func productOf(bits int64, x float32) float32 { return times(x, float32(powerOf(bits))) }

func plainCodes(bits int64, x []float32) []int64 {
	var codes []int64
	for _, sample := range x {
		codes = append(codes, plainCode(bits, float64(productOf(bits, sample))))
	}
	return codes
}

func wantCodesOf(t *testing.T, what string, bits int64, x []float32, want ...int64) {
	t.Helper()
	got, ok := impl.CodesOf(bits, x)
	wantIntegers(t, what, got, ok, want)
}

// over128 are samples whose products for 8 bits are told.
func over128(products ...float32) []float32 { return scaled(products, 1.0/128) }

func TestChapter6CodesByHand(t *testing.T) {
	wantCodesOf(t, "the example", 8, []float32{0.25, 1, -1}, 32, 127, -128)
	wantCodesOf(t, "ties", 8, over128(0.5, 1.5, 2.5, 3.5, 125.5, 126.5), 0, 2, 2, 4, 126, 126)
	wantCodesOf(t, "ties below zero", 8, over128(-0.5, -1.5, -2.5, -3.5, -126.5, -127.5), 0, -2, -2, -4, -126, -128)
	wantCodesOf(t, "just beside ties", 8, over128(0.5+0x1p-24, 1.5-0x1p-23, -0.5-0x1p-24, -1.5+0x1p-23, 2.5+0x1p-22, -2.5-0x1p-22), 1, 1, -1, -1, 3, -3)
	wantCodesOf(t, "just before 1/2", 8, over128(0.5-0x1p-25, -0.5+0x1p-25), 0, 0)
	wantCodesOf(t, "the greatest code", 8, over128(126.4, 126.6, 127, 127.4, 127.5, 127.6, 128, 129), 126, 127, 127, 127, 127, 127, 127, 127)
	wantCodesOf(t, "the least code", 8, over128(-127.4, -127.6, -128, -128.4, -128.5, -128.6, -129, -130), -127, -128, -128, -128, -128, -128, -128, -128)
	wantCodesOf(t, "2 bits", 2, []float32{-2, -1, -0.75, -0.5, -0.25, 0, 0.25, 0.5, 0.75, 1, 2}, -2, -2, -2, -1, 0, 0, 0, 1, 1, 1, 1)
	wantCodesOf(t, "16 bits", 16, []float32{-1, -0.5, 0.5, 1, 0x1p-15, 0x1p-16, 0x3p-16, 1 - 0x1p-15, 1 - 0x1p-16}, -32768, -16384, 16384, 32767, 1, 0, 2, 32767, 32767)
	wantCodesOf(t, "zeros", 8, []float32{0, minus0}, 0, 0)
}

func TestChapter6CodesOfEdges(t *testing.T) {
	for _, bits := range allowedBits() {
		m := int64(powerOf(bits))
		wantCodesOf(t, "1 and beyond", bits, []float32{1, 1 + 0x1p-23, 2, 1e10, largest, infinity}, slices.Repeat([]int64{m - 1}, 6)...)
		wantCodesOf(t, "-1 and beyond", bits, []float32{-1, -1 - 0x1p-23, -2, -1e10, -largest, -infinity}, slices.Repeat([]int64{-m}, 6)...)
		wantCodesOf(t, "a product out of range", bits, []float32{0x1p127, -0x1p127}, m-1, -m)
		wantCodesOf(t, "products beyond integers", bits, []float32{0x1p60, 0x1p62, 0x1p63, 0x1p64, -0x1p60, -0x1p63, -0x1p64}, m-1, m-1, m-1, m-1, -m, -m, -m)
		wantCodesOf(t, "not-a-numbers", bits, []float32{notANum, -notANum, rawNumber(0x7f800001), rawNumber(0xffffffff)}, 0, 0, 0, 0)
		wantCodesOf(t, "subnormal numbers", bits, []float32{tiny, -tiny, rawNumber(0x007fffff), rawNumber(0x807fffff), 0x1p-126}, 0, 0, 0, 0, 0)
		wantCodesOf(t, "no samples", bits, nil)
	}
}

func TestChapter6TiesOfAllCodes(t *testing.T) {
	for _, bits := range allowedBits() {
		m := int64(powerOf(bits))
		step := max(1, m/300)
		for code := -m; code < m-1; code += step {
			tie := over(float32(2*code+1), float32(2*m))
			even := code + code&1
			wantCodesOf(t, "around a tie", bits, []float32{impl.NextDown(tie), tie, impl.NextUp(tie)}, code, even, code+1)
		}
		wantCodesOf(t, "a tie above the greatest code", bits, []float32{over(float32(2*m-1), float32(2*m))}, m-1)
		wantCodesOf(t, "a tie below the least code", bits, []float32{over(float32(-2*m-1), float32(2*m))}, -m)
	}
}

// samplesForCodes have codes that are not only those at the ends.
func samplesForCodes(style, seed, count int) []float32 {
	list := samplesOfStyle(style, seed, count)
	for i, x := range list {
		switch bits := mixedBits(seed, 2000+i); {
		case style < 2 && bits%4 < 2 && impl.IsFinite(x):
			list[i] = float32(math.Mod(float64(x), 1.25))
		case style < 2 && bits%4 == 2:
			list[i] = over(float32(bits%513)-256, 256)
		}
	}
	return list
}

func TestChapter6CodesAreThoseOfTheDocument(t *testing.T) {
	for style := range styles {
		for _, bits := range allowedBits() {
			for i, count := range lengths() {
				x := samplesForCodes(style, 1300+i, count)
				wantCodesOf(t, "codes", bits, x, plainCodes(bits, x)...)
			}
		}
	}
}

func wantNoCodes(t *testing.T, what string, bits int64, x []float32) {
	t.Helper()
	codes, ok := impl.CodesOf(bits, x)
	wantNoList(t, what, codes, ok)
	codes, ok = impl.CodesWith(bits, x, make([]int64, 2*len(x)))
	wantNoList(t, what+" with noise", codes, ok)
	codes, carried, ok := impl.CodesShaped(bits, x, 1)
	wantNoList(t, what+" shaped", codes, ok)
	wantZero(t, what+" shaped", carried, ok)
}

func TestChapter6NoCodes(t *testing.T) {
	for _, wrong := range wrongBits() {
		for _, count := range []int{0, 1, 3, 256, 257} {
			wantNoCodes(t, "wrong bits", wrong, mixedSamples(1310, count))
		}
	}
	for _, bits := range allowedBits() {
		for _, wrong := range []int{257, 1000} {
			wantNoCodes(t, "too many samples", bits, make([]float32, wrong))
		}
	}
}

func wantSamplesOf(t *testing.T, what string, bits int64, codes []int64, want ...float32) {
	t.Helper()
	got, ok := impl.SamplesOf(bits, codes)
	wantSamples(t, what, got, ok, want)
}

func wantClippedCodes(t *testing.T, what string, bits int64, codes []int64, want int64) {
	t.Helper()
	if got, ok := impl.CountClipped(bits, codes); !ok || got != want {
		t.Errorf("%s: got %d %v, want %d", what, got, ok, want)
	}
}

func TestChapter6SamplesOfCodesByHand(t *testing.T) {
	wantSamplesOf(t, "8 bits", 8, []int64{32, -128, 127, 0, 1, -1}, 0.25, -1, 0.9921875, 0, 0.0078125, -0.0078125)
	wantSamplesOf(t, "2 bits", 2, []int64{-2, -1, 0, 1}, -1, -0.5, 0, 0.5)
	wantSamplesOf(t, "16 bits", 16, []int64{-32768, 32767, 1}, -1, 1-0x1p-15, 0x1p-15)
	for _, bits := range allowedBits() {
		m := int64(powerOf(bits))
		for code := -m; code < m; code += max(1, m/500) {
			wantSamplesOf(t, "a code", bits, []int64{code}, float32(float64(code)/float64(m)))
		}
		wantSamplesOf(t, "as many as there can be", bits, slices.Repeat([]int64{m - 1}, 256), repeated(float32(float64(m-1)/float64(m)), 256)...)
		wantSamplesOf(t, "no codes", bits, nil)
	}
}

func TestChapter6ClippedCodes(t *testing.T) {
	wantClippedCodes(t, "8 bits", 8, []int64{32, 127, -128, 2, -127, 126, 127}, 3)
	for _, bits := range allowedBits() {
		m := int64(powerOf(bits))
		wantClippedCodes(t, "no codes", bits, nil, 0)
		wantClippedCodes(t, "zeros", bits, make([]int64, 256), 0)
		wantClippedCodes(t, "the least code", bits, []int64{-m}, 1)
		wantClippedCodes(t, "the greatest code", bits, []int64{m - 1}, 1)
		wantClippedCodes(t, "the codes beside them", bits, []int64{-m + 1, m - 2}, 0)
		wantClippedCodes(t, "all of them", bits, slices.Repeat([]int64{-m, m - 1}, 128), 256)
		codes := plainCodes(bits, samplesForCodes(0, 1320+int(bits), 256))
		want := int64(0)
		for _, code := range codes {
			if code == m-1 || code == -m {
				want++
			}
		}
		wantClippedCodes(t, "codes of samples", bits, codes, want)
	}
}

func wantWrongCodes(t *testing.T, what string, bits int64, codes []int64) {
	t.Helper()
	samples, ok := impl.SamplesOf(bits, codes)
	wantNoList(t, what, samples, ok)
	clipped, ok := impl.CountClipped(bits, codes)
	wantZero(t, what, clipped, ok)
	if bits == 16 {
		text, ok := impl.BytesOfCodes(codes)
		wantZero(t, what, text, ok)
	}
}

func TestChapter6WrongCodes(t *testing.T) {
	for _, bits := range allowedBits() {
		m := int64(powerOf(bits))
		for _, wrong := range []int64{m, m + 1, -m - 1, -m - 2, 2 * m, -2 * m, 1 << 32, -1 << 32, 1<<32 + 1, math.MinInt64, math.MaxInt64} {
			wantWrongCodes(t, "a wrong code", bits, []int64{wrong})
			for place := range 4 {
				codes := []int64{0, m - 1, -m, 1}
				codes[place] = wrong
				wantWrongCodes(t, "a wrong code among right ones", bits, codes)
			}
			wantWrongCodes(t, "the last one of many", bits, append(make([]int64, 255), wrong))
		}
		for _, wrong := range []int{257, 1000} {
			wantWrongCodes(t, "too many codes", bits, make([]int64, wrong))
		}
	}
	for _, wrong := range wrongBits() {
		for _, codes := range [][]int64{nil, {}, {0}, {0, 1, -1}, make([]int64, 256)} {
			wantWrongCodes(t, "wrong bits", wrong, codes)
		}
	}
}

func wantBytes(t *testing.T, what string, codes []int64, want string) {
	t.Helper()
	if got, ok := impl.BytesOfCodes(codes); !ok || got != want {
		t.Errorf("%s: got %q %v, want %q", what, got, ok, want)
	}
	got, ok := impl.CodesOfBytes(want)
	wantIntegers(t, what+", read", got, ok, codes)
}

func TestChapter6BytesByHand(t *testing.T) {
	wantBytes(t, "no codes", nil, "")
	wantBytes(t, "two codes", []int64{1, -2}, "\x01\x00\xfe\xff")
	wantBytes(t, "codes at the ends", []int64{-32768, 32767, -32767, 32766}, "\x00\x80\xff\x7f\x01\x80\xfe\x7f")
	wantBytes(t, "both bytes", []int64{0x1234, -0x1234, 256, -256, 255, 128, 127, -1, -128, -129, 0}, "\x34\x12\xcc\xed\x00\x01\x00\xff\xff\x00\x80\x00\x7f\x00\xff\xff\x80\xff\x7f\xff\x00\x00")
}

// codesFrom are 256 codes, one after another.
func codesFrom(first int64) []int64 {
	codes := make([]int64, 256)
	for i := range codes {
		codes[i] = first + int64(i)
	}
	return codes
}

func TestChapter6BytesOfAllCodes(t *testing.T) {
	for first := int64(-32768); first < 32768; first += 256 {
		codes := codesFrom(first)
		var want []byte
		for _, code := range codes {
			unsigned := code
			if code < 0 {
				unsigned += 65536
			}
			want = append(want, byte(unsigned%256), byte(unsigned/256))
		}
		wantBytes(t, "256 codes", codes, string(want))
	}
}

func TestChapter6WrongBytes(t *testing.T) {
	for _, wrong := range []int{1, 3, 255, 511, 513, 514, 515, 1024, 100000} {
		codes, ok := impl.CodesOfBytes(string(make([]byte, wrong)))
		wantNoList(t, "CodesOfBytes", codes, ok)
	}
	codes, ok := impl.CodesOfBytes("x")
	wantNoList(t, "one byte", codes, ok)
	codes, ok = impl.CodesOfBytes("é\xff")
	wantNoList(t, "three bytes", codes, ok)
	codes, ok = impl.CodesOfBytes(string(make([]byte, 512)))
	wantIntegers(t, "as many as there can be", codes, ok, make([]int64, 256))
}
