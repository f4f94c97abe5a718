package tests

import (
	"math"
	"slices"
	"testing"

	"loop.example/g01170/impl"
)

// rawNumber returns the number with some bits without help of the program.
func rawNumber(bits uint32) float32 { return math.Float32frombits(bits) }

// oneBits are the bits by which two numbers are compared, with one value for all not-a-numbers.
func oneBits(x float32) uint32 {
	if x != x {
		return 0x7fc00000
	}
	return math.Float32bits(x)
}

func allBits(list []float32) []uint32 {
	bits := make([]uint32, len(list))
	for i, x := range list {
		bits[i] = oneBits(x)
	}
	return bits
}

func wantNumber(t *testing.T, what string, got, want float32) {
	t.Helper()
	if oneBits(got) != oneBits(want) {
		t.Errorf("%s: got %v (%08x), want %v (%08x)", what, got, oneBits(got), want, oneBits(want))
	}
}

func wantSum(t *testing.T, what string, got float32, ok bool, want float32) {
	t.Helper()
	if !ok {
		t.Errorf("%s: fails", what)
	}
	wantNumber(t, what, got, want)
}

func wantSamples(t *testing.T, what string, got []float32, ok bool, want []float32) {
	t.Helper()
	if !ok || !slices.Equal(allBits(got), allBits(want)) {
		t.Errorf("%s: got %v %v, want %v", what, got, ok, want)
	}
}

// wantZero is for calls that fail: all other results are zero values.
func wantZero[T comparable](t *testing.T, what string, got T, ok bool) {
	t.Helper()
	var zero T
	if ok || got != zero {
		t.Errorf("%s: got %v %v, want a zero value and false", what, got, ok)
	}
}

func wantNoList[T any](t *testing.T, what string, got []T, ok bool) {
	t.Helper()
	if ok || len(got) != 0 {
		t.Errorf("%s: got %v %v, want no list and false", what, got, ok)
	}
}

func wantIntegers(t *testing.T, what string, got []int64, ok bool, want []int64) {
	t.Helper()
	if !ok || !slices.Equal(got, want) {
		t.Errorf("%s: got %v %v, want %v", what, got, ok, want)
	}
}

func repeated(x float32, count int) []float32 {
	return slices.Repeat([]float32{x}, count)
}

// mixedBits is a short rule for bits without a pattern, the same in each run.
func mixedBits(seed, i int) uint32 {
	n := uint64(seed)*0x9e3779b97f4a7c15 + uint64(i)*0xbf58476d1ce4e5b9
	n ^= n >> 29
	n *= 0x94d049bb133111eb
	return uint32(n >> 32)
}

// mixedSamples have exponents near that of 1, so that their sums are rounded.
func mixedSamples(seed, count int) []float32 {
	list := make([]float32, count)
	for i := range list {
		bits := mixedBits(seed, i)
		list[i] = rawNumber(bits&0x807fffff | (120+bits>>23&15)<<23)
	}
	return list
}

// edgeNumbers are the numbers at which the functions change what they do.
func edgeNumbers() []float32 {
	var list []float32
	for _, bits := range []uint32{
		0x00000000, 0x00000001, 0x00000002, 0x007ffffe, 0x007fffff, 0x00800000, 0x00800001,
		0x3effffff, 0x3f000000, 0x3f000001, 0x3f800000, 0x3f800001, 0x40490fdb, 0x4b800000,
		0x7f7ffffe, 0x7f7fffff, 0x7f800000, 0x7f800001, 0x7fbfffff, 0x7fc00000, 0x7fc00001, 0x7fffffff,
	} {
		list = append(list, rawNumber(bits), rawNumber(bits|0x80000000))
	}
	return list
}

func isNaN(x float32) bool { return x != x }

func from(t *testing.T, bits int64) float32 {
	t.Helper()
	x, ok := impl.FromBits(bits)
	if !ok {
		t.Fatalf("FromBits(%d) fails", bits)
	}
	return x
}
