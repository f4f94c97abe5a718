package tests

import (
	"math"
	"slices"
	"testing"

	"loop.example/g01170/impl"
)

// plainLaneAt does what the document tells of the value at a place, apart from the program.
func plainLaneAt(points []impl.Point, at int64) float32 {
	if at <= points[0].At {
		return points[0].Value
	}
	for i, q := range points {
		switch {
		case at == q.At:
			return q.Value
		case at < q.At:
			p := points[i-1]
			share := over(float32(at-p.At), float32(q.At-p.At))
			return plus(p.Value, times(plus(q.Value, -p.Value), share))
		}
	}
	return points[len(points)-1].Value
}

func plainRunLane(points []impl.Point, from int64, count int) []float32 {
	values := make([]float32, count)
	for i := range values {
		values[i] = plainLaneAt(points, from+int64(i))
	}
	return values
}

func plainApplyLane(points []impl.Point, from int64, x []float32) []float32 {
	values := plainRunLane(points, from, len(x))
	for i := range values {
		values[i] = times(x[i], values[i])
	}
	return values
}

// pointsAt have the values 1, 2 and so on.
func pointsAt(places ...int64) []impl.Point {
	points := make([]impl.Point, len(places))
	for i, at := range places {
		points[i] = impl.Point{At: at, Value: float32(i + 1)}
	}
	return points
}

// laneOfStyle has points with 1 to 40 places between two of them, or with most of them far from one another.
func laneOfStyle(style, seed, count int) []impl.Point {
	points, values := make([]impl.Point, count), samplesOfStyle(style, seed, count)
	at := int64(mixedBits(seed, 7000) % 20)
	for i := range points {
		points[i] = impl.Point{At: at, Value: values[i]}
		step := int64(mixedBits(seed, 7001+i))
		if seed%2 == 0 {
			at += 1 + step%40
		} else {
			at += 1 + step%8000
		}
	}
	return points
}

func wantLane(t *testing.T, what string, points []impl.Point, want bool) {
	t.Helper()
	if impl.IsLane(points) != want {
		t.Errorf("%s: IsLane of %v is not %v", what, points, want)
	}
}

func wantLaneAt(t *testing.T, what string, points []impl.Point, at int64, want float32) {
	t.Helper()
	got, ok := impl.LaneAt(points, at)
	wantSum(t, what, got, ok, want)
}

func wantRunLane(t *testing.T, what string, points []impl.Point, from int64, want ...float32) {
	t.Helper()
	got, ok := impl.RunLane(points, from, int64(len(want)))
	wantSamples(t, what, got, ok, want)
}

func wantApplied(t *testing.T, what string, points []impl.Point, from int64, x []float32, want ...float32) {
	t.Helper()
	got, ok := impl.ApplyLane(points, from, x)
	wantSamples(t, what, got, ok, want)
}

// wantNoLane is for points that are no lane.
func wantNoLane(t *testing.T, what string, points []impl.Point) {
	t.Helper()
	wantLane(t, what, points, false)
	for _, at := range []int64{0, 5, 100000} {
		value, ok := impl.LaneAt(points, at)
		wantZero(t, what, value, ok)
		values, ok := impl.RunLane(points, at, 1)
		wantNoList(t, what, values, ok)
		values, ok = impl.RunLane(points, at, 0)
		wantNoList(t, what, values, ok)
		values, ok = impl.ApplyLane(points, at, []float32{1})
		wantNoList(t, what, values, ok)
		values, ok = impl.ApplyLane(points, at, nil)
		wantNoList(t, what, values, ok)
	}
}

func wantNoRunLane(t *testing.T, what string, points []impl.Point, from, count int64) {
	t.Helper()
	values, ok := impl.RunLane(points, from, count)
	wantNoList(t, what, values, ok)
	if count >= 0 && count <= 1000 {
		values, ok = impl.ApplyLane(points, from, make([]float32, count))
		wantNoList(t, what, values, ok)
	}
}

func wrongLanePlaces() []int64 {
	return []int64{-1, 100001, -100000, 1 << 32, 1<<32 + 1, math.MinInt64, math.MinInt64 + 1, math.MaxInt64 - 1, math.MaxInt64}
}

func TestChapter7IsLane(t *testing.T) {
	wantNoLane(t, "none", nil)
	wantNoLane(t, "none", []impl.Point{})
	most := pointsAt(0, 1, 2, 3, 10, 100, 1000, 5000, 70000, 99998, 99999, 100000)
	wantLane(t, "MaxPoints", most, true)
	for count := 1; count <= 12; count++ {
		wantLane(t, "a beginning", most[:count], true)
		wantLane(t, "an end", most[12-count:], true)
	}
	wantNoLane(t, "one more", pointsAt(0, 1, 2, 3, 4, 5, 6, 7, 8, 9, 10, 11, 12))
	wantNoLane(t, "many more", make([]impl.Point, 100000))
	for _, at := range []int64{0, 1, 99999, 100000} {
		wantLane(t, "one point", pointsAt(at), true)
	}
	for _, value := range edgeNumbers() {
		wantLane(t, "any value", []impl.Point{{At: 3, Value: value}, {At: 4, Value: 1}}, true)
	}
	for _, at := range wrongLanePlaces() {
		wantNoLane(t, "a wrong place", pointsAt(at))
		wantNoLane(t, "the first one", pointsAt(at, 1))
		wantNoLane(t, "the last one", pointsAt(1, at))
		wantNoLane(t, "the middle one", pointsAt(1, at, 5))
	}
	wantNoLane(t, "the same place", pointsAt(3, 3))
	wantNoLane(t, "a lesser one", pointsAt(3, 2))
	wantNoLane(t, "the last two", pointsAt(0, 1, 2, 2))
	wantNoLane(t, "the first two", pointsAt(1, 0, 2, 3))
	wantNoLane(t, "the same places, not side by side", pointsAt(1, 2, 1))
	wantNoLane(t, "the last one of MaxPoints", pointsAt(0, 1, 2, 3, 4, 5, 6, 7, 8, 9, 10, 10))
}

func TestChapter7LaneAtByHand(t *testing.T) {
	example := []impl.Point{{At: 0, Value: 0}, {At: 4, Value: 1}}
	wantLaneAt(t, "the example of the document", example, 1, 0.25)
	for at, want := range []float32{0, 0.25, 0.5, 0.75, 1, 1, 1} {
		wantLaneAt(t, "the lane of the example", example, int64(at), want)
	}
	wantLaneAt(t, "far behind it", example, 100000, 1)
	for _, at := range []int64{0, 1, 6, 7, 8, 99999, 100000} {
		wantLaneAt(t, "one point", []impl.Point{{At: 7, Value: -3}}, at, -3)
	}
	three := []impl.Point{{At: 2, Value: 1}, {At: 4, Value: 5}, {At: 8, Value: -3}}
	for at, want := range []float32{1, 1, 1, 3, 5, 3, 1, -1, -3, -3} {
		wantLaneAt(t, "three points", three, int64(at), want)
	}
	beside := []impl.Point{{At: 5, Value: 1}, {At: 6, Value: 9}, {At: 7, Value: 2}}
	for at, want := range []float32{1, 1, 1, 1, 1, 1, 9, 2, 2} {
		wantLaneAt(t, "points side by side", beside, int64(at), want)
	}
	wide := []impl.Point{{At: 0, Value: 0}, {At: 100000, Value: 100000}}
	for _, at := range []int64{0, 25000, 50000, 99999, 100000} {
		wantLaneAt(t, "the whole way", wide, at, plainLaneAt(wide, at))
	}
	wantLaneAt(t, "the end", wide, 100000, 100000)
}

func TestChapter7LaneAtItsPoints(t *testing.T) {
	for _, value := range edgeNumbers() {
		for _, other := range []float32{0, minus0, 1, -1, infinity, -infinity, notANum, largest, tiny} {
			points := []impl.Point{{At: 3, Value: value}, {At: 5, Value: other}, {At: 6, Value: value}, {At: 9, Value: other}}
			for _, p := range points {
				wantLaneAt(t, "a point", points, p.At, p.Value)
			}
			wantLaneAt(t, "before the first one", points, 0, value)
			wantLaneAt(t, "beside the first one", points, 2, value)
			wantLaneAt(t, "beside the last one", points, 10, other)
			wantLaneAt(t, "behind the last one", points, 100000, other)
		}
	}
}

func TestChapter7LaneBetweenEdges(t *testing.T) {
	for _, row := range [][3]float32{
		{0, 0, 0}, {minus0, minus0, 0}, {minus0, 0, 0}, {0, minus0, 0}, {infinity, infinity, notANum}, {infinity, 0, notANum},
		{0, infinity, infinity}, {0, -infinity, -infinity}, {-infinity, infinity, notANum}, {1, notANum, notANum}, {notANum, 1, notANum},
		{-largest, largest, infinity}, {largest, -largest, -infinity}, {largest, largest, largest}, {0, tiny, 0}, {0, times(2, tiny), tiny},
		{0, 0x1p-126, 0x1p-127}, {16777216, 1, 8388608}, {1, 16777216, 8388608},
	} {
		wantLaneAt(t, "half the way between two values", []impl.Point{{At: 10, Value: row[0]}, {At: 12, Value: row[1]}}, 11, row[2])
	}
	// The product first would have 7 and 13.
	wantLaneAt(t, "the quotient is first", []impl.Point{{At: 0, Value: 0}, {At: 13, Value: 13}}, 7, rawNumber(0x40e00001))
	wantLaneAt(t, "the quotient is first", []impl.Point{{At: 10, Value: 0}, {At: 32, Value: 22}}, 23, rawNumber(0x414fffff))
}

func TestChapter7LanesOfAllPlaces(t *testing.T) {
	for style := range styles {
		for count := 1; count <= 12; count++ {
			for seed := 2100; seed < 2104; seed++ {
				points := laneOfStyle(style, seed, count)
				for _, p := range points {
					for at := max(0, p.At-3); at <= p.At+3; at++ {
						wantLaneAt(t, "a place near a point", points, at, plainLaneAt(points, at))
					}
				}
				for _, length := range lengths() {
					from := int64(mixedBits(seed, length)) % (points[count-1].At + 10)
					wantRunLane(t, "a run", points, from, plainRunLane(points, from, length)...)
					x := samplesOfStyle(style, seed+length, length)
					wantApplied(t, "a run of samples", points, from, x, plainApplyLane(points, from, x)...)
				}
			}
		}
	}
}

func TestChapter7RunsOfLanesByHand(t *testing.T) {
	lane := []impl.Point{{At: 1, Value: 2}, {At: 3, Value: 4}}
	wantRunLane(t, "a run", lane, 0, 2, 2, 3, 4, 4)
	wantRunLane(t, "from a place on", lane, 2, 3, 4)
	wantRunLane(t, "no places", lane, 2)
	wantApplied(t, "samples", lane, 0, []float32{1, 10, 100, 1000, 10000}, 2, 20, 300, 4000, 40000)
	wantApplied(t, "no samples", lane, 2, nil)
	wantApplied(t, "edges", lane, 0, []float32{minus0, infinity, notANum, largest, tiny}, minus0, infinity, notANum, infinity, times(4, tiny))
	silent := []impl.Point{{At: 1, Value: 0}, {At: 3, Value: minus0}}
	wantApplied(t, "times zeros", silent, 1, []float32{infinity, -1, -1}, notANum, minus0, 0)
	loud := []impl.Point{{At: 1, Value: infinity}}
	wantApplied(t, "times infinities", loud, 0, []float32{0, minus0, tiny, -1}, notANum, notANum, infinity, -infinity)
}

func TestChapter7RunsOfLanesAtTheEnds(t *testing.T) {
	lane := []impl.Point{{At: 0, Value: 1}, {At: 99999, Value: 3}, {At: 100000, Value: 7}}
	wantRunLane(t, "the last place", lane, 100000, 7)
	wantRunLane(t, "the last two places", lane, 99999, 3, 7)
	wantRunLane(t, "none at the last place", lane, 100000)
	wantRunLane(t, "none at the first place", lane, 0)
	wantRunLane(t, "MaxSamples at the end", lane, 99745, plainRunLane(lane, 99745, 256)...)
	wantRunLane(t, "MaxSamples at the start", lane, 0, plainRunLane(lane, 0, 256)...)
	wantApplied(t, "the last place", lane, 100000, []float32{2}, 14)
	wantApplied(t, "the last two places", lane, 99999, []float32{2, 2}, 6, 14)
	wantApplied(t, "none at the last place", lane, 100000, nil)
	wantApplied(t, "MaxSamples at the end", lane, 99745, repeated(2, 256), plainApplyLane(lane, 99745, repeated(2, 256))...)
	for _, count := range []int64{1, 2, 3, 100, 255, 256} {
		wantNoRunLane(t, "one place more", lane, 100000-count+2, count)
		if values, ok := impl.RunLane(lane, 100000-count+1, count); !ok || values[count-1] != 7 {
			t.Errorf("a run of %d places to the last one: %v %v", count, values, ok)
		}
	}
}

func TestChapter7WrongPlacesOfLanes(t *testing.T) {
	for _, lane := range [][]impl.Point{pointsAt(0), pointsAt(0, 100000), pointsAt(5, 6, 7)} {
		for _, at := range wrongLanePlaces() {
			value, ok := impl.LaneAt(lane, at)
			wantZero(t, "a wrong place", value, ok)
			for _, count := range []int64{0, 1, 2, 256, 257, -1, math.MaxInt64, math.MinInt64} {
				wantNoRunLane(t, "a wrong place", lane, at, count)
			}
		}
		for _, from := range []int64{0, 1, 5, 99000, 100000} {
			for _, count := range wrongCounts() {
				wantNoRunLane(t, "a wrong count", lane, from, count)
			}
		}
		wantNoRunLane(t, "many samples", lane, 0, 1000)
	}
	if values, ok := impl.ApplyLane(pointsAt(0), 0, make([]float32, 100000)); ok || len(values) != 0 {
		t.Errorf("ApplyLane of 100000 samples does not fail")
	}
}

func TestChapter7LanesAreAsTheirPlaces(t *testing.T) {
	for seed := 2110; seed < 2130; seed++ {
		points := laneOfStyle(seed%styles, seed, 1+seed%12)
		values, ok := impl.RunLane(points, 7, 256)
		if !ok {
			t.Errorf("RunLane of %v fails", points)
		}
		for i, want := range values {
			wantLaneAt(t, "each place", points, int64(7+i), want)
		}
		ones, ok := impl.ApplyLane(points, 7, repeated(1, 256))
		wantSamples(t, "ones", ones, ok, values)
		parts, _ := impl.RunLane(points, 7, 100)
		rest, _ := impl.RunLane(points, 107, 156)
		wantSamples(t, "in parts", slices.Concat(parts, rest), true, values)
	}
}
