package tests

import (
	"math"
	"slices"
	"testing"

	"loop.example/g01170/impl"
)

// plainHeard does what the document tells of tracks that are heard, apart from the program.
func plainHeard(tracks []impl.Track) []int64 {
	solos := 0
	for _, track := range tracks {
		if track.Solo {
			solos++
		}
	}
	var heard []int64
	for i, track := range tracks {
		if (solos == 0 || track.Solo) && !track.Mute {
			heard = append(heard, int64(i))
		}
	}
	return heard
}

// plainMix takes the factors of the program, which have tests of their own.
func plainMix(tracks []impl.Track, count int) ([]float32, []float32) {
	left, right := make([]float32, count), make([]float32, count)
	for _, i := range plainHeard(tracks) {
		gain, _ := impl.GainOf(tracks[i].Tenths)
		toLeft, toRight, _ := impl.PanOf(tracks[i].Pan)
		for k, x := range tracks[i].Samples {
			if k < count {
				left[k] = plus(left[k], times(times(x, gain), toLeft))
				right[k] = plus(right[k], times(times(x, gain), toRight))
			}
		}
	}
	return left, right
}

func wantPan(t *testing.T, what string, pan, left, right float32) {
	t.Helper()
	a, b, ok := impl.PanOf(pan)
	wantSum(t, what+", left", a, ok, left)
	wantSum(t, what+", right", b, ok, right)
}

func wantTracks(t *testing.T, what string, tracks []impl.Track, want bool) {
	t.Helper()
	if impl.AreTracks(tracks) != want {
		t.Errorf("%s: AreTracks of %d tracks is not %v", what, len(tracks), want)
	}
}

func wantHeard(t *testing.T, what string, tracks []impl.Track, want ...int64) {
	t.Helper()
	got, ok := impl.HeardTracks(tracks)
	wantIntegers(t, what, got, ok, want)
}

func wantMix(t *testing.T, what string, tracks []impl.Track, left, right []float32) {
	t.Helper()
	a, b, ok := impl.MixTracks(tracks, int64(len(left)))
	wantSamples(t, what+", left", a, ok, left)
	wantSamples(t, what+", right", b, ok, right)
}

func wantNoMix(t *testing.T, what string, tracks []impl.Track, count int64) {
	t.Helper()
	a, b, ok := impl.MixTracks(tracks, count)
	wantNoList(t, what+", left", a, ok)
	wantNoList(t, what+", right", b, ok)
}

// wantNoTracks is for tracks of which one is wrong.
func wantNoTracks(t *testing.T, what string, tracks []impl.Track) {
	t.Helper()
	wantTracks(t, what, tracks, false)
	heard, ok := impl.HeardTracks(tracks)
	wantNoList(t, what, heard, ok)
	wantNoMix(t, what, tracks, 3)
	wantNoMix(t, what, tracks, 0)
}

func isRightPan(pan float32) bool { return pan >= 0 && pan <= 1 }

func wrongPans() []float32 {
	return append(slices.DeleteFunc(edgeNumbers(), isRightPan), -0.5, 2, rawNumber(0x3f800001), -tiny)
}

// pansOf are right ones, with those at both ends among them.
func pansOf(seed, count int) []float32 {
	ends := []float32{0, minus0, tiny, 0.5, rawNumber(0x3f7fffff), 1}
	pans := make([]float32, count)
	for i := range pans {
		bits := mixedBits(seed, 8000+i)
		pans[i] = times(float32(bits%16777217), 0x1p-24)
		if bits>>28 == 0 {
			pans[i] = ends[bits%6]
		}
	}
	return pans
}

// tracksOfStyle have up to 40 samples, and some of them are muted or solo.
func tracksOfStyle(style, seed, count int) []impl.Track {
	tracks, pans := make([]impl.Track, count), pansOf(seed, count)
	for i := range tracks {
		bits := mixedBits(seed, 9000+i)
		tracks[i] = impl.Track{
			Samples: samplesOfStyle(style, seed+i, int(bits%41)),
			Tenths:  int64(bits>>8%4001) - 2000,
			Pan:     pans[i],
			Mute:    bits>>24%4 == 0,
			Solo:    seed%3 == 0 && bits>>26%3 == 0,
		}
	}
	return tracks
}

func TestChapter7PansByHand(t *testing.T) {
	wantPan(t, "left", 0, 1, 0)
	wantPan(t, "left, with -0", minus0, 1, minus0)
	wantPan(t, "right", 1, 0, 1)
	wantPan(t, "just right of the left", tiny, 1, 0)
	half := impl.SineTurns(0.125)
	wantPan(t, "in the middle", 0.5, half, half)
	// These were computed apart from the program.
	for _, row := range [][3]uint32{
		{0x3f000000, 0x3f3504f3, 0x3f3504f3}, {0x3e99999a, 0x3f641901, 0x3ee87172}, {0x3f7fffff, 0x33c90fdb, 0x3f800000},
		{0x00800000, 0x3f800000, 0x00c90fdb}, {0x3dcccccd, 0x3f7cd925, 0x3e20305b}, {0x3f333333, 0x3ee87172, 0x3f641901},
	} {
		wantPan(t, "computed apart", rawNumber(row[0]), rawNumber(row[1]), rawNumber(row[2]))
	}
	for _, pan := range wrongPans() {
		left, right, ok := impl.PanOf(pan)
		wantZero(t, "a wrong pan", [2]float32{left, right}, ok)
	}
}

func TestChapter7PansOfAllPlaces(t *testing.T) {
	pans := append(slices.DeleteFunc(edgeNumbers(), func(x float32) bool { return !isRightPan(x) }), pansOf(2200, 3000)...)
	for _, pan := range pans {
		wantPan(t, "any pan", pan, impl.SineTurns(over(plus(1, -pan), 4)), impl.SineTurns(over(pan, 4)))
	}
}

func TestChapter7AreTracks(t *testing.T) {
	wantTracks(t, "none", nil, true)
	wantTracks(t, "MaxNodes", make([]impl.Track, 8), true)
	wantNoTracks(t, "one more", make([]impl.Track, 9))
	wantNoTracks(t, "many more", make([]impl.Track, 100000))
	for _, count := range lengths() {
		wantTracks(t, "samples", []impl.Track{{Samples: samplesOfStyle(3, 2210, count)}}, true)
	}
	for _, tenths := range []int64{-2000, -1999, 0, 1999, 2000} {
		wantTracks(t, "tenths", []impl.Track{{Tenths: tenths}}, true)
	}
	for _, pan := range append(pansOf(2211, 100), 0, minus0, tiny, rawNumber(0x3f7fffff), 1) {
		wantTracks(t, "a pan", []impl.Track{{Pan: pan}}, true)
	}
	for _, wrong := range wrongTracks() {
		for _, mute := range []bool{false, true} {
			for _, solo := range []bool{false, true} {
				wrong.Mute, wrong.Solo = mute, solo
				wantNoTracks(t, "a wrong track", []impl.Track{wrong})
				wantNoTracks(t, "the first one", []impl.Track{wrong, {Solo: true}, {}})
				wantNoTracks(t, "the last one", []impl.Track{{Solo: true}, {}, wrong})
			}
		}
	}
}

// wrongTracks have one field that is wrong.
func wrongTracks() []impl.Track {
	tracks := []impl.Track{{Samples: make([]float32, 257)}, {Samples: make([]float32, 100000)}}
	for _, tenths := range []int64{-2001, 2001, 1 << 32, 1<<32 + 1, math.MinInt64, math.MaxInt64} {
		tracks = append(tracks, impl.Track{Samples: []float32{1}, Tenths: tenths})
	}
	for _, pan := range wrongPans() {
		tracks = append(tracks, impl.Track{Samples: []float32{1}, Pan: pan})
	}
	return tracks
}

// flagged have a track for each letter: m is muted, s is solo, b is both, and . is none of them.
func flagged(letters string) []impl.Track {
	tracks := make([]impl.Track, len(letters))
	for i, letter := range letters {
		tracks[i] = impl.Track{Samples: []float32{float32(int(1) << i)}, Mute: letter == 'm' || letter == 'b', Solo: letter == 's' || letter == 'b'}
	}
	return tracks
}

func TestChapter7HeardTracksByHand(t *testing.T) {
	wantHeard(t, "no tracks", nil)
	wantHeard(t, "one", flagged("."), 0)
	wantHeard(t, "one that is muted", flagged("m"))
	wantHeard(t, "one that is solo", flagged("s"), 0)
	wantHeard(t, "one that is both", flagged("b"))
	wantHeard(t, "all", flagged("........"), 0, 1, 2, 3, 4, 5, 6, 7)
	wantHeard(t, "some are muted", flagged("m..m...m"), 1, 2, 4, 5, 6)
	wantHeard(t, "one is solo", flagged(".m.s.m.."), 3)
	wantHeard(t, "some are solo", flagged("s.....ms"), 0, 7)
	wantHeard(t, "one that is both makes the others silent", flagged("..b..."))
	wantHeard(t, "both and solo", flagged(".b.s.bs."), 3, 6)
	wantHeard(t, "all are muted", flagged("mmmmmmmm"))
	wantHeard(t, "all are both", flagged("bbbbbbbb"))
}

func TestChapter7HeardTracksOfAllFlags(t *testing.T) {
	for n := range 1 << 12 {
		letters := make([]byte, 6)
		for i := range letters {
			letters[i] = ".msb"[n>>(2*i)%4]
		}
		tracks := flagged(string(letters))
		heard := plainHeard(tracks)
		wantHeard(t, string(letters), tracks, heard...)
		sum := float32(0)
		for _, i := range heard {
			sum += float32(int(1) << i)
		}
		wantMix(t, string(letters), tracks, []float32{sum}, []float32{0})
	}
}

func TestChapter7MixesByHand(t *testing.T) {
	wantMix(t, "no tracks", nil, []float32{0, 0, 0}, []float32{0, 0, 0})
	wantMix(t, "no tracks and no samples", nil, nil, nil)
	left, right := impl.Track{Samples: []float32{1, 2}}, impl.Track{Samples: []float32{4, 5, 6}, Pan: 1}
	wantMix(t, "fewer and more samples than are asked", []impl.Track{left, right}, []float32{1, 2}, []float32{4, 5})
	wantMix(t, "no samples", []impl.Track{left, right}, nil, nil)
	wantMix(t, "one sample", []impl.Track{left, right}, []float32{1}, []float32{4})
	wantMix(t, "more than there are", []impl.Track{left, right}, []float32{1, 2, 0, 0, 0}, []float32{4, 5, 6, 0, 0})
	wantMix(t, "tracks without samples", []impl.Track{{}, {Samples: []float32{}}, left}, []float32{1, 2, 0}, []float32{0, 0, 0})
	muted := left
	muted.Mute = true
	wantMix(t, "a muted one", []impl.Track{muted, right}, []float32{0, 0}, []float32{4, 5})
	solo := left
	solo.Solo = true
	wantMix(t, "a solo one", []impl.Track{solo, right}, []float32{1, 2}, []float32{0, 0})
	loud := impl.Track{Samples: []float32{1, -3, 0.1}, Tenths: 60}
	gain, _ := impl.GainOf(60)
	wantMix(t, "a gain", []impl.Track{loud}, []float32{gain, times(-3, gain), times(0.1, gain)}, []float32{0, 0, 0})
	half := impl.SineTurns(0.125)
	middle := impl.Track{Samples: []float32{2, -3}, Pan: 0.5}
	wantMix(t, "the middle", []impl.Track{middle}, []float32{times(2, half), times(-3, half)}, []float32{times(2, half), times(-3, half)})
}

func TestChapter7MixesOfEdges(t *testing.T) {
	for _, row := range [][4]float32{
		{0, 0, 0, 0}, {minus0, 0, 0, 0}, {minus0, 1, 0, 0}, {infinity, 0, infinity, notANum}, {-infinity, 1, notANum, -infinity},
		{notANum, 0, notANum, notANum}, {tiny, 0, tiny, 0}, {-tiny, 1, 0, -tiny}, {largest, 0, largest, 0}, {0x1p-127, 0, 0x1p-127, 0},
	} {
		track := impl.Track{Samples: row[:1], Pan: row[1]}
		wantMix(t, "sample, pan, left and right", []impl.Track{track}, row[2:3], row[3:])
		silent := impl.Track{Samples: []float32{minus0}, Pan: row[1]}
		wantMix(t, "with a silent one", []impl.Track{silent, track}, row[2:3], row[3:])
	}
	soft := impl.Track{Samples: []float32{infinity, largest, minus0}, Tenths: -2000}
	gain, _ := impl.GainOf(-2000)
	wantMix(t, "the least gain", []impl.Track{soft}, []float32{infinity, times(largest, gain), 0}, []float32{notANum, 0, 0})
	soft.Tenths = 2000
	wantMix(t, "the greatest gain", []impl.Track{soft}, []float32{infinity, infinity, 0}, []float32{notANum, notANum, 0})
	ends := []impl.Track{{Samples: []float32{infinity}}, {Samples: []float32{-infinity}}}
	wantMix(t, "infinities", ends, []float32{notANum}, []float32{notANum})
}

func TestChapter7MixesAreMadeInOrder(t *testing.T) {
	const big = 16777216
	of := func(numbers ...float32) []impl.Track {
		var tracks []impl.Track
		for _, x := range numbers {
			tracks = append(tracks, impl.Track{Samples: []float32{x}})
		}
		return tracks
	}
	wantMix(t, "the ones are lost", of(big, 1, 1, -big), []float32{0}, []float32{0})
	wantMix(t, "the ones stay", of(1, 1, big, -big), []float32{2}, []float32{0})
	wantMix(t, "one is lost", of(big, 1, -big, 1), []float32{1}, []float32{0})
	// The gain comes first: the product of it and the factor of the pan would have other bits.
	found := 0
	for i, x := range mixedSamples(2220, 50) {
		tracks := []impl.Track{{Samples: []float32{x}, Tenths: int64(i*7 - 150), Pan: 0.3}}
		gain, _ := impl.GainOf(tracks[0].Tenths)
		toLeft, toRight, _ := impl.PanOf(0.3)
		wantMix(t, "the gain is first", tracks, []float32{times(times(x, gain), toLeft)}, []float32{times(times(x, gain), toRight)})
		if times(times(x, gain), toLeft) != times(x, times(gain, toLeft)) && times(times(x, gain), toLeft) != times(times(x, toLeft), gain) {
			found++
		}
	}
	if found == 0 {
		t.Errorf("no sample tells the order")
	}
}

func TestChapter7MixesOfAnyTracks(t *testing.T) {
	for style := range styles {
		for count := range 9 {
			for seed := range 12 {
				tracks := tracksOfStyle(style, 2300+100*count+seed, count)
				for _, length := range lengths() {
					left, right := plainMix(tracks, length)
					wantMix(t, "any tracks", tracks, left, right)
				}
				wantHeard(t, "any tracks", tracks, plainHeard(tracks)...)
			}
		}
	}
	long := []impl.Track{{Samples: mixedSamples(2250, 256), Pan: 0.25}, {Samples: mixedSamples(2251, 255), Tenths: -35, Pan: 0.75}}
	for _, length := range lengths() {
		left, right := plainMix(long, length)
		wantMix(t, "long tracks", long, left, right)
	}
}

func TestChapter7MixesWithWrongCounts(t *testing.T) {
	for _, count := range wrongCounts() {
		wantNoMix(t, "a wrong count", []impl.Track{{Samples: []float32{1}}}, count)
		wantNoMix(t, "a wrong count without tracks", nil, count)
		wantNoMix(t, "a wrong count of what is muted", flagged("mm"), count)
	}
}

// wantSides asks for both ways at once, as halves of sums and differences and as these themselves.
func wantSides(t *testing.T, what string, a, b, sums, differences []float32) {
	t.Helper()
	left, right, ok := impl.LeftAndRight(a, b)
	wantSamples(t, what+", sums", left, ok, sums)
	wantSamples(t, what+", differences", right, ok, differences)
	middle, side, ok := impl.MiddleAndSide(a, b)
	wantSamples(t, what+", halves of sums", middle, ok, scaled(sums, 0.5))
	wantSamples(t, what+", halves of differences", side, ok, scaled(differences, 0.5))
}

func TestChapter7SidesByHand(t *testing.T) {
	wantSides(t, "none", nil, nil, nil, nil)
	wantSides(t, "numbers", []float32{3, 1, -2, 0.5}, []float32{1, 1, 5, 0.25}, []float32{4, 2, 3, 0.75}, []float32{2, 0, -7, 0.25})
	wantSides(t, "zeros", []float32{0, 0, minus0, minus0}, []float32{0, minus0, 0, minus0}, []float32{0, 0, 0, minus0}, []float32{0, 0, minus0, 0})
	wantSides(t, "infinities", []float32{infinity, infinity, 1, notANum, 1}, []float32{infinity, -infinity, -infinity, 1, notANum},
		[]float32{infinity, notANum, -infinity, notANum, notANum}, []float32{notANum, infinity, infinity, notANum, notANum})
	wantSides(t, "they are halved in the end", []float32{largest, tiny, tiny}, []float32{largest, tiny, 0}, []float32{infinity, times(2, tiny), tiny}, []float32{0, 0, tiny})
	middle, side, ok := impl.MiddleAndSide([]float32{tiny, largest}, []float32{tiny, -largest})
	wantSamples(t, "the middle", middle, ok, []float32{tiny, 0})
	wantSamples(t, "the side", side, ok, []float32{0, infinity})
}

func TestChapter7SidesOfAllLengths(t *testing.T) {
	for style := range styles {
		for count := range 257 {
			a, b := samplesOfStyle(style, 2260+count, count), samplesOfStyle(style, 2600+count, count)
			sums, differences := make([]float32, count), make([]float32, count)
			for i := range a {
				sums[i], differences[i] = plus(a[i], b[i]), plus(a[i], -b[i])
			}
			wantSides(t, "any samples", a, b, sums, differences)
		}
	}
}

func TestChapter7SidesOfWrongLengths(t *testing.T) {
	for _, lens := range [][2]int{{0, 1}, {1, 0}, {2, 3}, {256, 255}, {256, 257}, {257, 256}, {257, 257}, {0, 257}, {100000, 100000}} {
		a, b := make([]float32, lens[0]), make([]float32, lens[1])
		for _, f := range []func(a, b []float32) ([]float32, []float32, bool){impl.MiddleAndSide, impl.LeftAndRight} {
			first, second, ok := f(a, b)
			wantNoList(t, "the first list", first, ok)
			wantNoList(t, "the second list", second, ok)
		}
	}
}
