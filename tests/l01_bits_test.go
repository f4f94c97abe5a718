package tests

import (
	"math"
	"math/big"
	"testing"

	"loop.example/g01170/impl"
)

var (
	infinity = float32(math.Inf(1))
	notANum  = float32(math.NaN())
	minus0   = rawNumber(0x80000000)
	tiny     = rawNumber(1)
	largest  = rawNumber(0x7f7fffff)
)

func TestChapter1BitExamples(t *testing.T) {
	if got := impl.BitsOf(1); got != 1065353216 {
		t.Errorf("BitsOf(1) = %d", got)
	}
	if text, ok := impl.NumbersText([]float32{1}); text != "3f800000" || !ok {
		t.Errorf("the text of 1 is %q %v", text, ok)
	}
	wantNumber(t, "the number with the bits 1, flushed", impl.FlushNumber(from(t, 1)), 0)
}

func TestPromise2SameNumber(t *testing.T) {
	for _, a := range edgeNumbers() {
		for _, b := range edgeNumbers() {
			want := isNaN(a) && isNaN(b) || a == b && math.Signbit(float64(a)) == math.Signbit(float64(b))
			if got := impl.SameNumber(a, b); got != want {
				t.Errorf("SameNumber(%08x, %08x) = %v", math.Float32bits(a), math.Float32bits(b), got)
			}
		}
	}
}

func TestPromise2IsFinite(t *testing.T) {
	for _, x := range edgeNumbers() {
		want := !isNaN(x) && x != infinity && x != -infinity
		if got := impl.IsFinite(x); got != want {
			t.Errorf("IsFinite(%v) = %v", x, got)
		}
	}
}

func TestPromise2NumbersAreMadeByTheirBits(t *testing.T) {
	for _, x := range edgeNumbers() {
		bits := int64(math.Float32bits(x))
		got := from(t, bits)
		if math.Float32bits(got) != uint32(bits) && !isNaN(x) || isNaN(got) != isNaN(x) {
			t.Errorf("FromBits(%08x) = %v", bits, got)
		}
		if back := impl.BitsOf(x); back != int64(oneBits(x)) {
			t.Errorf("BitsOf(%08x) = %08x", bits, back)
		}
	}
	for i := range 5000 {
		bits := mixedBits(1, i)
		if got := impl.BitsOf(from(t, int64(bits))); got != int64(oneBits(rawNumber(bits))) {
			t.Errorf("the bits %08x became %08x", bits, got)
		}
	}
}

func TestPromise2AllNotANumbersHaveOneValue(t *testing.T) {
	for _, bits := range []uint32{0x7f800001, 0x7fbfffff, 0x7fc00000, 0x7fffffff, 0xff800001, 0xffc00000, 0xffffffff} {
		if got := impl.BitsOf(rawNumber(bits)); got != 2143289344 {
			t.Errorf("BitsOf(%08x) = %d", bits, got)
		}
	}
}

func TestPromise2BitsOutOfRangeFail(t *testing.T) {
	for _, bits := range []int64{-1, 4294967296, math.MinInt64, math.MaxInt64, -4294967296, 1 << 33} {
		x, ok := impl.FromBits(bits)
		wantZero(t, "FromBits out of range", math.Float32bits(x), ok)
	}
	wantNumber(t, "the least bits", from(t, 0), 0)
	if x := from(t, 4294967295); !isNaN(x) {
		t.Errorf("the greatest bits are %v", x)
	}
}

// nearest is an independent rounding.
func nearest(x float64) float32 {
	if math.IsNaN(x) {
		return notANum
	}
	narrow, _ := new(big.Float).SetFloat64(x).Float32()
	return narrow
}

func TestPromise2NarrowsToTheNearest(t *testing.T) {
	for _, x := range edgeNumbers() {
		next := impl.NextUp(x)
		wantNumber(t, "a number that is one of 32 bits", impl.NarrowNumber(float64(x)), x)
		if !impl.IsFinite(x) || !impl.IsFinite(next) {
			continue
		}
		middle := (float64(x) + float64(next)) / 2
		for _, wide := range []float64{middle, math.Nextafter(middle, math.Inf(1)), math.Nextafter(middle, math.Inf(-1))} {
			wantNumber(t, "near a halfway case", impl.NarrowNumber(wide), nearest(wide))
		}
	}
	for i := range 20000 {
		low, high := mixedBits(2, i), mixedBits(3, i)
		wide := math.Float64frombits(uint64(high&0x800fffff|(1023-160+high>>20&255)<<20)<<32 | uint64(low))
		wantNumber(t, "any 64-bit number", impl.NarrowNumber(wide), nearest(wide))
	}
}

func TestPromise2NarrowsHalvesToEven(t *testing.T) {
	beyond := float64(largest) + math.Ldexp(1, 103)
	for _, c := range []struct {
		wide float64
		want uint32
	}{
		{1 + math.Ldexp(1, -24), 0x3f800000},
		{1 + math.Ldexp(3, -24), 0x3f800002},
		{-1 - math.Ldexp(3, -24), 0xbf800002},
		{math.Ldexp(1, -150), 0x00000000},
		{math.Ldexp(3, -150), 0x00000002},
		{math.Nextafter(math.Ldexp(1, -150), 1), 0x00000001},
		{-math.Ldexp(1, -150), 0x80000000},
		{math.SmallestNonzeroFloat64, 0x00000000},
		{math.Copysign(0, -1), 0x80000000},
		{math.Ldexp(1, -126) - math.Ldexp(1, -150), 0x00800000},
		{math.Nextafter(beyond, 0), 0x7f7fffff},
		{beyond, 0x7f800000},
		{-beyond, 0xff800000},
		{math.MaxFloat64, 0x7f800000},
		{math.Inf(-1), 0xff800000},
		{math.NaN(), 0x7fc00000},
	} {
		if got := oneBits(impl.NarrowNumber(c.wide)); got != c.want {
			t.Errorf("NarrowNumber(%v) = %08x, want %08x", c.wide, got, c.want)
		}
	}
}

func TestPromise2NextNumbers(t *testing.T) {
	for _, c := range []struct{ x, up, down uint32 }{
		{0x00000000, 0x00000001, 0x80000001},
		{0x80000000, 0x00000001, 0x80000001},
		{0x00000001, 0x00000002, 0x00000000},
		{0x80000001, 0x80000000, 0x80000002},
		{0x007fffff, 0x00800000, 0x007ffffe},
		{0x00800000, 0x00800001, 0x007fffff},
		{0x80800000, 0x807fffff, 0x80800001},
		{0x3f800000, 0x3f800001, 0x3f7fffff},
		{0xbf800000, 0xbf7fffff, 0xbf800001},
		{0x7f7fffff, 0x7f800000, 0x7f7ffffe},
		{0xff7fffff, 0xff7ffffe, 0xff800000},
		{0x7f800000, 0x7f800000, 0x7f7fffff},
		{0xff800000, 0xff7fffff, 0xff800000},
		{0x7fc00000, 0x7fc00000, 0x7fc00000},
		{0x7f800001, 0x7fc00000, 0x7fc00000},
		{0xffffffff, 0x7fc00000, 0x7fc00000},
	} {
		x := rawNumber(c.x)
		wantNumber(t, "NextUp", impl.NextUp(x), rawNumber(c.up))
		wantNumber(t, "NextDown", impl.NextDown(x), rawNumber(c.down))
	}
	for i := range 5000 {
		x := rawNumber(mixedBits(4, i))
		wantNumber(t, "NextUp of any number", impl.NextUp(x), math.Nextafter32(x, infinity))
		wantNumber(t, "NextDown of any number", impl.NextDown(x), math.Nextafter32(x, -infinity))
	}
}

func TestPromise2SubnormalNumbers(t *testing.T) {
	for _, c := range []struct {
		bits    uint32
		sub     bool
		flushed uint32
	}{
		{0x00000000, false, 0x00000000},
		{0x80000000, false, 0x80000000},
		{0x00000001, true, 0x00000000},
		{0x80000001, true, 0x80000000},
		{0x00400000, true, 0x00000000},
		{0x007fffff, true, 0x00000000},
		{0x807fffff, true, 0x80000000},
		{0x00800000, false, 0x00800000},
		{0x80800000, false, 0x80800000},
		{0x3f800000, false, 0x3f800000},
		{0x7f800000, false, 0x7f800000},
		{0xff800000, false, 0xff800000},
		{0x7fc00000, false, 0x7fc00000},
		{0x7f800001, false, 0x7fc00000},
	} {
		x := rawNumber(c.bits)
		if got := impl.IsSubnormal(x); got != c.sub {
			t.Errorf("IsSubnormal(%08x) = %v", c.bits, got)
		}
		wantNumber(t, "FlushNumber", impl.FlushNumber(x), rawNumber(c.flushed))
	}
}

func TestPromise2FlushedNumbersAreNeverSubnormal(t *testing.T) {
	for i := range 20000 {
		bits := mixedBits(5, i)
		if i%2 == 0 {
			bits &= 0x80ffffff
		}
		x := rawNumber(bits)
		flushed := impl.FlushNumber(x)
		small := x != 0 && math.Abs(float64(x)) < math.Ldexp(1, -126)
		if impl.IsSubnormal(x) != small || impl.IsSubnormal(flushed) {
			t.Errorf("%08x: subnormal %v, flushed %08x", bits, impl.IsSubnormal(x), oneBits(flushed))
		}
		want := x
		if small {
			want = float32(math.Copysign(0, float64(x)))
		}
		wantNumber(t, "FlushNumber of any number", flushed, want)
	}
}
