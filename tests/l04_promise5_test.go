package tests

import (
	"slices"
	"testing"

	"loop.example/g01170/impl"
)

func wantWithin(t *testing.T, what string, l impl.Limiter, samples []float32) {
	t.Helper()
	outputs, _, ok := impl.RunLimiter(l, samples)
	if !ok || len(outputs) != len(samples) {
		t.Fatalf("%s: %d outputs %v for %d samples", what, len(outputs), ok, len(samples))
	}
	for i, y := range outputs {
		if plainSize(y) > l.Limit {
			t.Errorf("%s: the output %d is %v with the limit %v", what, i, y, l.Limit)
		}
	}
}

func TestPromise5NoOutputIsBeyondTheLimit(t *testing.T) {
	for style := range styles {
		for i, ahead := range []int{0, 1, 2, 7, 32, 63, 64} {
			x := samplesOfStyle(style, 4000+i, 256)
			for seed := range 12 {
				wantWithin(t, "any numbers", limiterOfStyle(style, 4100+20*i+seed, ahead), x)
			}
			for _, limit := range rightLimits() {
				for _, rise := range edgeNumbers() {
					l, _ := impl.NewLimiter(limit, rise, int64(ahead))
					wantWithin(t, "a new limiter", l, x)
					l.Gain = rise
					wantWithin(t, "another gain", l, x)
				}
			}
		}
	}
}

func TestPromise5InfinitiesStayWithinTheLimit(t *testing.T) {
	for ahead := range 65 {
		for _, loud := range []float32{infinity, -infinity, largest, -largest} {
			for _, gain := range []float32{1, 0, -1, infinity, -infinity, notANum} {
				x := repeated(0.75, 256)
				x[100], x[130] = loud, -loud
				wantWithin(t, "loud samples", impl.Limiter{Limit: 0.5, Rise: 0.25, Gain: gain, Ahead: repeated(loud, ahead)}, x)
			}
		}
	}
}

// roundedBeyond are samples whose products with the nearest gain for a limit are rounded to more than the limit.
func roundedBeyond(limit float32) []float32 {
	var list []float32
	for i := 0; len(list) < 100; i++ {
		x := plus(limit, plainSize(mixedSamples(5000+i, 1)[0]))
		if x > limit && times(x, over(limit, x)) > limit {
			list = append(list, x, -x)
		}
	}
	return list
}

func TestPromise5ProductsThatAreRoundedBeyondTheLimit(t *testing.T) {
	for _, limit := range []float32{0.3, 0.7, 1.1} {
		for _, x := range roundedBeyond(limit) {
			want := limit
			if x < 0 {
				want = -limit
			}
			l := impl.Limiter{Limit: limit, Rise: infinity, Gain: 1}
			wantLimited(t, "rounded to more", l, []float32{x}, []float32{want}, over(limit, plainSize(x)), nil)
			l.Ahead = []float32{x}
			wantLimited(t, "rounded to more, one ahead", l, []float32{0}, []float32{want}, over(limit, plainSize(x)), []float32{0})
		}
	}
}

// samplesWithin have sizes of at most a limit, some of them just this.
func samplesWithin(limit float32, seed, count int) []float32 {
	list := samplesOfStyle(seed%styles, seed, count)
	for i, x := range list {
		list[i] = plainClip(x, limit)
	}
	return list
}

func risesThatDoNotFall() []float32 {
	return []float32{0, minus0, tiny, 0x1p-30, 0.25, 1, largest, infinity, notANum}
}

func TestPromise5SamplesWithinTheLimitAreOnlyDelayed(t *testing.T) {
	for ahead := range 65 {
		for i, limit := range append(rightLimits(), 0.3, 0.5, 40) {
			for k, rise := range risesThatDoNotFall() {
				n := lengths()[(ahead+i+k)%len(lengths())]
				x := samplesWithin(limit, 6000+100*ahead+10*i+k, n)
				l, _ := impl.NewLimiter(limit, rise, int64(ahead))
				all := slices.Concat(l.Ahead, x)
				wantLimited(t, "samples within the limit", l, x, all[:n], 1, all[n:])
			}
		}
	}
}

func TestPromise5LimitersOpenAgain(t *testing.T) {
	for ahead := range 65 {
		l, _ := impl.NewLimiter(0.5, 0.25, int64(ahead))
		_, l, ok := impl.RunLimiter(l, append([]float32{-1000}, make([]float32, ahead)...))
		if !ok || l.Gain >= 0.001 {
			t.Fatalf("with %d samples ahead, the gain is %v", ahead, l.Gain)
		}
		_, l, _ = impl.RunLimiter(l, make([]float32, 4))
		x := samplesWithin(0.5, 7000+ahead, 256)
		all := slices.Concat(l.Ahead, x)
		wantLimited(t, "behind a loud sample", l, x, all[:256], 1, all[256:])
	}
}

func TestPromise5LimitersLookAhead(t *testing.T) {
	for ahead := range 65 {
		x := repeated(0.25, 256)
		x[150] = 1
		l, _ := impl.NewLimiter(0.5, infinity, int64(ahead))
		want := slices.Concat(l.Ahead, x)
		for i := 150; i <= 150+ahead; i++ {
			want[i] = times(want[i], 0.5)
		}
		wantLimited(t, "soft as long as a loud sample is in sight", l, x, want[:256], 1, want[256:])
	}
}
