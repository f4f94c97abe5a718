package tests

import (
	"math"
	"slices"
	"testing"

	"loop.example/g01170/impl"
)

// areEqual compares numbers, of which both zeros are equal.
func areEqual(a, b []float32) bool { return slices.Equal(a, b) }

// finiteSamples are plain ones, or ones near the subnormal numbers, with both zeros among them.
func finiteSamples(style, seed, count int) []float32 {
	list := samplesOfStyle(style%2*2, seed, count)
	for i := range list {
		switch mixedBits(seed, 3000+i) % 8 {
		case 0:
			list[i] = 0
		case 1:
			list[i] = minus0
		}
	}
	return list
}

func TestPromise7ItsOwnSpeed(t *testing.T) {
	for style := range 2 {
		for count := 1; count <= 256; count++ {
			x := finiteSamples(style, 1400+count, count)
			for _, kind := range readKinds() {
				got, ok := impl.PlayAt(kind, x, 0, 1, int64(count))
				if !ok || !areEqual(got, x) {
					t.Errorf("kind %d: a recording of %d samples is not itself", kind, count)
				}
				back, ok := impl.PlayAt(kind, x, float64(count-1), -1, int64(count))
				slices.Reverse(back)
				if !ok || !areEqual(back, x) {
					t.Errorf("kind %d: a recording of %d samples is not itself if it is played back", kind, count)
				}
			}
		}
	}
}

func TestPromise7ItsOwnSpeedInBits(t *testing.T) {
	for style := range styles {
		for count := 1; count <= 256; count++ {
			x := samplesOfStyle(style, 1410+count, count)
			got, ok := impl.PlayAt(impl.ReadNear, x, 0, 1, int64(count))
			wantSamples(t, "near", got, ok, x)
			for i := range x {
				got, ok := impl.ReadAt(impl.ReadNear, x, float64(i))
				wantSum(t, "each sample", got, ok, x[i])
			}
		}
	}
}

func TestPromise7PlayedInParts(t *testing.T) {
	x := finiteSamples(0, 1420, 256)
	for _, kind := range readKinds() {
		for cut := range 257 {
			first, ok := impl.PlayAt(kind, x, 0, 1, int64(cut))
			second, also := impl.PlayAt(kind, x, float64(min(cut, 255)), 1, int64(256-cut))
			if !ok || !also || !areEqual(append(first, second...), x) {
				t.Errorf("kind %d: a recording that is cut at %d is not itself", kind, cut)
			}
		}
	}
}

func TestPromise7NothingChangesWithoutAFactor(t *testing.T) {
	for style := range 2 {
		for _, count := range lengths() {
			x := finiteSamples(style, 1430+count, count)
			folded, _, ok := impl.FoldTaps([]float32{1}, nil, x)
			raised, also := impl.RaiseBy(1, []float32{1}, x)
			lowered, too := impl.LowerBy(1, []float32{1}, x)
			if !ok || !also || !too || !areEqual(folded, x) || !areEqual(raised, x) || !areEqual(lowered, x) {
				t.Errorf("%d samples are not themselves", count)
			}
		}
	}
}

func TestPromise7PickedOfSpreadIsItself(t *testing.T) {
	for style := range styles {
		for _, factor := range factors() {
			for count := range 256/int(factor) + 1 {
				x := samplesOfStyle(style, 1440+count, count)
				spread, _ := impl.SpreadBy(factor, x)
				for first := range factor {
					picked, ok := impl.PickBy(factor, first, spread)
					want := x
					if first > 0 {
						want = make([]float32, count)
					}
					wantSamples(t, "picked of spread", picked, ok, want)
				}
			}
		}
	}
}

func TestPromise7LoweredOfRaisedIsItself(t *testing.T) {
	for _, factor := range factors() {
		for count := range 256/int(factor) + 1 {
			x := finiteSamples(0, 1450+count, count)
			held, ok := impl.RaiseBy(factor, repeated(1, int(factor)), x)
			lowered, also := impl.LowerBy(factor, []float32{1}, held)
			if !ok || !also || !areEqual(lowered, x) {
				t.Errorf("%d samples are not themselves with the factor %d", count, factor)
			}
			for i := range held {
				if held[i] != x[i/int(factor)] {
					t.Errorf("the sample %d is not held with the factor %d", i, factor)
				}
			}
		}
	}
}

// isNearest reports whether a code is the nearest one to a number, and an even one of two that are as near.
func isNearest(bits int64, number float64, code int64) bool {
	m := powerOf(bits)
	switch {
	case math.IsNaN(number):
		return code == 0
	case number >= m-1:
		return float64(code) == m-1
	case number <= -m:
		return float64(code) == -m
	}
	distance := math.Abs(number - float64(code))
	return distance < 0.5 || distance == 0.5 && code%2 == 0
}

func wantNearest(t *testing.T, what string, bits int64, number float64, code int64) {
	t.Helper()
	if !isNearest(bits, number, code) {
		t.Errorf("%s: %v has the code %d of %d bits", what, number, code, bits)
	}
}

func TestPromise7CodesAreNearest(t *testing.T) {
	for style := range styles {
		for _, bits := range allowedBits() {
			for seed := range 4 {
				x := samplesForCodes(style, 1460+seed, 256)
				codes, ok := impl.CodesOf(bits, x)
				if !ok || len(codes) != len(x) {
					t.Fatalf("no codes of %d bits", bits)
				}
				for i, code := range codes {
					wantNearest(t, "a code", bits, float64(x[i])*powerOf(bits), code)
				}
			}
		}
	}
}

func TestPromise7CodesAreNearestButForTheNoise(t *testing.T) {
	for style := range styles {
		for _, bits := range allowedBits() {
			for seed := range 4 {
				x, noise := samplesForCodes(style, 1470+seed, 256), noiseOf(1480+seed, 256)
				codes, ok := impl.CodesWith(bits, x, noise)
				if !ok || len(codes) != len(x) {
					t.Fatalf("no codes of %d bits with noise", bits)
				}
				for i, code := range codes {
					number := float64(x[i])*powerOf(bits) + float64(noise[2*i]-noise[2*i+1])/256
					wantNearest(t, "a code with noise", bits, number, code)
				}
			}
		}
	}
}

func TestPromise7NoiseThatIsNoneChangesNothing(t *testing.T) {
	for style := range styles {
		for _, bits := range allowedBits() {
			x := samplesForCodes(style, 1490, 256)
			want, _ := impl.CodesOf(bits, x)
			for _, same := range []int64{0, 1, 128, 255} {
				wantNoisy(t, "equal numbers", bits, x, slices.Repeat([]int64{same}, 512), want...)
			}
			for _, share := range []float32{0, minus0, notANum, infinity, -infinity} {
				codes, _, ok := impl.CodesShaped(bits, x, share)
				wantIntegers(t, "no error that is carried on", codes, ok, want)
			}
		}
	}
}

func TestPromise7CodesOfSamplesOfCodes(t *testing.T) {
	for _, bits := range allowedBits() {
		m := int64(powerOf(bits))
		for first := -m; first < m; first += 256 {
			codes := codesFrom(first)
			codes = codes[:min(256, m-first)]
			x, ok := impl.SamplesOf(bits, codes)
			if !ok {
				t.Fatalf("no samples of codes of %d bits", bits)
			}
			wantCodesOf(t, "codes of samples of codes", bits, x, codes...)
			shaped, carried, ok := impl.CodesShaped(bits, x, 1)
			wantIntegers(t, "shaped", shaped, ok, codes)
			wantNumber(t, "no error", carried, 0)
		}
	}
}

func TestPromise7CodesOfBytesOfCodes(t *testing.T) {
	for seed := range 20 {
		for _, count := range lengths() {
			codes, _ := impl.CodesOf(16, samplesForCodes(seed%styles, 1500+seed, count))
			text, ok := impl.BytesOfCodes(codes)
			if !ok || len(text) != 2*count {
				t.Errorf("%d bytes of %d codes", len(text), count)
			}
			read, ok := impl.CodesOfBytes(text)
			wantIntegers(t, "codes of bytes", read, ok, codes)
			again, ok := impl.BytesOfCodes(read)
			if !ok || again != text {
				t.Error("the bytes of codes of bytes are others")
			}
		}
	}
}

func TestPromise7ShapedCodesLoseNothing(t *testing.T) {
	// The products are multiples of 1/64 within the codes, so that all sums are exact.
	for _, bits := range allowedBits()[2:] {
		for seed := range 20 {
			m := int64(powerOf(bits))
			x, sum := make([]float32, 256), 0.0
			for i := range x {
				product := float64(int64(mixedBits(1510+seed, i))%(64*(m-2)))/64 - float64(m-2)/2
				x[i] = float32(product / float64(m))
				sum += product
			}
			codes, carried, ok := impl.CodesShaped(bits, x, 1)
			total := 0.0
			for _, code := range codes {
				total += float64(code)
			}
			if !ok || total != sum+float64(carried) || math.Abs(float64(carried)) > 0.5 {
				t.Errorf("the sum of the codes is %v, and that of the products %v, with the error %v", total, sum, carried)
			}
		}
	}
}
