package tests

import (
	"math"
	"testing"

	"loop.example/g01170/impl"
)

// plainRoom sends all samples through one part of a room after another, apart from the program.
func plainRoom(r impl.Room, lines [][]float32, x []float32) ([]float32, [][]float32) {
	sums := make([]float32, len(x))
	last := make([][]float32, len(lines))
	for k, comb := range r.Combs {
		results, line := plainDelay(comb, lines[k], x)
		last[k] = line
		for i := range sums {
			sums[i] = plus(sums[i], results[i])
		}
	}
	for k, pass := range r.Passes {
		place := len(r.Combs) + k
		sums, last[place] = plainPass(pass, lines[place], sums)
	}
	results := make([]float32, len(x))
	for i := range x {
		results[i] = plus(times(r.Dry, x[i]), times(r.Wet, sums[i]))
	}
	return results, last
}

func wantLines(t *testing.T, what string, got [][]float32, ok bool, want [][]float32) {
	t.Helper()
	if len(got) != len(want) {
		t.Errorf("%s: %d lines, want %d", what, len(got), len(want))
		return
	}
	for i := range want {
		wantSamples(t, what+", a line", got[i], ok, want[i])
	}
}

func wantRoom(t *testing.T, what string, r impl.Room, lines [][]float32, x, want []float32, last [][]float32) {
	t.Helper()
	got, kept, ok := impl.RunRoom(r, lines, x)
	wantSamples(t, what, got, ok, want)
	wantLines(t, what, kept, ok, last)
}

// roomOfStyle is a room with so many combs and passes, and its lines.
func roomOfStyle(style, seed, combs, passes int) (impl.Room, [][]float32) {
	k := gainsOfStyle(style, seed, 40)
	r := impl.Room{Dry: k[0], Wet: k[1]}
	var lines [][]float32
	for i := range combs + passes {
		length := int64(1 + mixedBits(seed, i)%64)
		if mixedBits(seed, 100+i)%4 == 0 {
			length = 1
		}
		lines = append(lines, samplesOfStyle(style, seed+i+1, int(length)))
		if i < combs {
			r.Combs = append(r.Combs, impl.Delay{Length: length, Feedback: k[3*i+2], Dry: k[3*i+3], Wet: k[3*i+4], Flush: i%2 == 0})
		} else {
			r.Passes = append(r.Passes, impl.Pass{Length: length, Gain: k[3*i+2]})
		}
	}
	return r, lines
}

// hall is a room whose sound becomes softer.
func hall() impl.Room {
	return impl.Room{
		Combs: []impl.Delay{
			{Length: 7, Feedback: 0.7, Wet: 1, Flush: true}, {Length: 64, Feedback: -0.6, Dry: 0.1, Wet: 0.9},
			{Length: 1, Feedback: 0.3, Wet: 1}, {Length: 11, Feedback: 0.65, Dry: -0.2, Wet: 1, Flush: true},
		},
		Passes: []impl.Pass{{Length: 5, Gain: 0.7}, {Length: 1, Gain: -0.5}, {Length: 64, Gain: 0.6}},
		Dry:    0.8, Wet: 0.35,
	}
}

func TestChapter3ValidRooms(t *testing.T) {
	for combs := range 7 {
		for passes := range 6 {
			r, _ := roomOfStyle(1, combs, combs, passes)
			want := combs >= 1 && combs <= 4 && passes <= 3
			if impl.ValidRoom(r) != want {
				t.Errorf("a room with %d combs and %d passes: %v", combs, passes, !want)
			}
		}
	}
	if impl.ValidRoom(impl.Room{}) || !impl.ValidRoom(hall()) || impl.ValidRoom(impl.Room{Passes: []impl.Pass{{Length: 1}}}) {
		t.Error("plain rooms")
	}
	for _, x := range edgeNumbers() {
		r := impl.Room{Combs: []impl.Delay{{Length: 1, Feedback: x, Dry: x, Wet: x, Flush: true}}, Passes: []impl.Pass{{Length: 64, Gain: x}}, Dry: x, Wet: x}
		if !impl.ValidRoom(r) {
			t.Errorf("a room with numbers %v is not valid", x)
		}
	}
}

// wrongRooms are not valid because of one of their parts.
func wrongRooms() []impl.Room {
	rooms := []impl.Room{{}, {Passes: []impl.Pass{{Length: 1}}}}
	for _, n := range wrongLengths() {
		for i := range 4 {
			r := hall()
			r.Combs[i].Length = n
			rooms = append(rooms, r)
		}
		for i := range 3 {
			r := hall()
			r.Passes[i].Length = n
			rooms = append(rooms, r)
		}
	}
	many, _ := roomOfStyle(0, 1, 5, 3)
	more, _ := roomOfStyle(0, 2, 4, 4)
	return append(rooms, many, more, impl.Room{Combs: make([]impl.Delay, 1000)})
}

func TestChapter3WrongRooms(t *testing.T) {
	for _, r := range wrongRooms() {
		if impl.ValidRoom(r) {
			t.Errorf("the room %v is valid", r)
		}
		lines, ok := impl.EmptyRoom(r)
		wantNoList(t, "EmptyRoom", lines, ok)
		for _, count := range []int64{0, 1, 256} {
			answer, ok := impl.AnswerOf(r, count)
			wantNoList(t, "AnswerOf", answer, ok)
		}
		var own [][]float32
		for _, comb := range r.Combs {
			own = append(own, make([]float32, max(0, min(comb.Length, 65))))
		}
		for _, pass := range r.Passes {
			own = append(own, make([]float32, max(0, min(pass.Length, 65))))
		}
		for _, given := range [][][]float32{nil, own, emptyLines(hall())} {
			results, last, ok := impl.RunRoom(r, given, []float32{1})
			wantNoList(t, "RunRoom", results, ok)
			wantNoList(t, "RunRoom", last, ok)
		}
	}
}

func emptyLines(r impl.Room) [][]float32 {
	var lines [][]float32
	for _, comb := range r.Combs {
		lines = append(lines, repeated(0, int(comb.Length)))
	}
	for _, pass := range r.Passes {
		lines = append(lines, repeated(0, int(pass.Length)))
	}
	return lines
}

func TestChapter3EmptyRooms(t *testing.T) {
	for combs := 1; combs <= 4; combs++ {
		for passes := range 4 {
			for seed := range 5 {
				r, _ := roomOfStyle(1, seed, combs, passes)
				lines, ok := impl.EmptyRoom(r)
				wantLines(t, "EmptyRoom", lines, ok, emptyLines(r))
			}
		}
	}
	lines, ok := impl.EmptyRoom(hall())
	wantLines(t, "EmptyRoom", lines, ok, emptyLines(hall()))
}

func TestChapter3RoomsByHand(t *testing.T) {
	r := impl.Room{Combs: []impl.Delay{{Length: 1, Wet: 1}, {Length: 2, Wet: 1}}, Dry: 1, Wet: 0.5}
	wantRoom(t, "two combs", r, [][]float32{{0}, {0, 0}}, []float32{2, 0}, []float32{2, 1}, [][]float32{{0}, {2, 0}})
	r.Passes = []impl.Pass{{Length: 1, Gain: 0.5}}
	wantRoom(t, "a pass", r, [][]float32{{4}, {8, 2}, {16}}, []float32{1, 3}, []float32{4, 9.75}, [][]float32{{3}, {1, 3}, {13}})
	wantRoom(t, "no samples", r, [][]float32{{4}, {8, tiny}, {notANum}}, nil, nil, [][]float32{{4}, {8, tiny}, {notANum}})
	combs := []impl.Delay{{Length: 1, Wet: 1}}
	two := impl.Room{Combs: combs, Passes: []impl.Pass{{Length: 1, Gain: 0.5}, {Length: 1, Gain: 2}}, Wet: 1}
	wantRoom(t, "passes in order", two, [][]float32{{2}, {4}, {8}}, []float32{0}, []float32{-28}, [][]float32{{0}, {4}, {18}})
	dry := impl.Room{Combs: []impl.Delay{{Length: 1, Feedback: 2, Dry: 3, Wet: 5}}, Dry: 7, Wet: 11}
	wantRoom(t, "dry and wet of both", dry, [][]float32{{13}}, []float32{17}, []float32{7*17 + 11*(3*17+5*13)}, [][]float32{{17 + 2*13}})
}

func TestChapter3CombsAreAddedInOrder(t *testing.T) {
	const big = 16777216
	comb := impl.Delay{Length: 1, Wet: 1}
	r := impl.Room{Combs: []impl.Delay{comb, comb, comb}, Wet: 1}
	none := [][]float32{{0}, {0}, {0}}
	wantRoom(t, "the big one first", r, [][]float32{{big}, {1}, {1}}, []float32{0}, []float32{big}, none)
	wantRoom(t, "the big one in the middle", r, [][]float32{{1}, {big}, {1}}, []float32{0}, []float32{big}, none)
	wantRoom(t, "the big one last", r, [][]float32{{1}, {1}, {big}}, []float32{0}, []float32{big + 2}, none)
	minus := impl.Room{Combs: []impl.Delay{{Length: 1, Dry: -1, Wet: 1}}, Dry: -1, Wet: 1}
	wantRoom(t, "the sum begins with +0", minus, [][]float32{{minus0}}, []float32{0}, []float32{0}, [][]float32{{0}})
}

func TestChapter3ProductsOfRoomsAreRoundedOnTheirOwn(t *testing.T) {
	x := 1 + float32(1)/4096
	square := 1 + float32(1)/2048
	combs := []impl.Delay{{Length: 1, Wet: 1}}
	wantRoom(t, "Dry", impl.Room{Combs: combs, Dry: x, Wet: -1}, [][]float32{{square}}, []float32{x}, []float32{0}, [][]float32{{x}})
	wantRoom(t, "Wet", impl.Room{Combs: combs, Dry: -1, Wet: x}, [][]float32{{x}}, []float32{square}, []float32{0}, [][]float32{{square}})
}

func TestChapter3RoomsAreThoseOfTheDocument(t *testing.T) {
	for combs := 1; combs <= 4; combs++ {
		for passes := range 4 {
			for _, count := range []int{0, 1, 63, 64, 65, 130, 256} {
				for style := range styles {
					seed := 1000*combs + 100*passes + count + style
					r, lines := roomOfStyle(style, seed, combs, passes)
					x := samplesOfStyle(style, seed+50, count)
					want, last := plainRoom(r, lines, x)
					wantRoom(t, "a room", r, lines, x, want, last)
				}
			}
		}
	}
	for style := range styles {
		lines := emptyLines(hall())
		for i := range lines {
			lines[i] = samplesOfStyle(style, i, len(lines[i]))
		}
		x := samplesOfStyle(style, 60, 256)
		want, last := plainRoom(hall(), lines, x)
		wantRoom(t, "a hall", hall(), lines, x, want, last)
	}
}

func TestChapter3RoomsComputedApart(t *testing.T) {
	for _, row := range []struct {
		scale         float32
		results, last int64
	}{
		{1, 39156, 27022},
		{0x1p-131, 27825, 46601},
	} {
		x := scaled(mixedSamples(310, 256), row.scale)
		results, lines, ok := impl.RunRoom(hall(), emptyLines(hall()), x)
		check, last := checkOfSamples(t, results), checkOfSamples(t, joined(lines))
		if !ok || check != row.results || last != row.last {
			t.Errorf("scale %v: %d and %d, want %d and %d", row.scale, check, last, row.results, row.last)
		}
	}
	answer, ok := impl.AnswerOf(hall(), 256)
	if check := checkOfSamples(t, answer); !ok || check != 1395 {
		t.Errorf("the answer: %d", check)
	}
}

func joined(lines [][]float32) []float32 {
	var all []float32
	for _, line := range lines {
		all = append(all, line...)
	}
	return all
}

func TestChapter3Answers(t *testing.T) {
	r := impl.Room{Combs: []impl.Delay{{Length: 1, Wet: 1}, {Length: 2, Wet: 1}}, Dry: 1, Wet: 0.5}
	got, ok := impl.AnswerOf(r, 4)
	wantSamples(t, "two combs", got, ok, []float32{1, 0.5, 0.5, 0})
	for count := 1; count <= 256; count++ {
		x := make([]float32, count)
		x[0] = 1
		want, _ := plainRoom(hall(), emptyLines(hall()), x)
		got, ok := impl.AnswerOf(hall(), int64(count))
		wantSamples(t, "an answer", got, ok, want)
	}
	for _, count := range []int64{0, -1, 257, math.MinInt64, math.MaxInt64, 1 << 32, 1<<32 + 1} {
		got, ok := impl.AnswerOf(r, count)
		wantNoList(t, "AnswerOf", got, ok)
	}
}

func wantNoRoom(t *testing.T, what string, r impl.Room, lines [][]float32, x []float32) {
	t.Helper()
	results, last, ok := impl.RunRoom(r, lines, x)
	wantNoList(t, what, results, ok)
	wantNoList(t, what, last, ok)
}

func TestChapter3WrongLinesOfRooms(t *testing.T) {
	for _, x := range [][]float32{nil, {1, 2}} {
		for count := range 6 {
			wantNoRoom(t, "too few lines", hall(), emptyLines(hall())[:count], x)
		}
		wantNoRoom(t, "too many lines", hall(), append(emptyLines(hall()), []float32{0}), x)
		wantNoRoom(t, "an empty line too many", hall(), append(emptyLines(hall()), nil), x)
		for i := range 7 {
			short, long, none := emptyLines(hall()), emptyLines(hall()), emptyLines(hall())
			short[i] = short[i][1:]
			long[i] = append(long[i], 0)
			none[i] = nil
			wantNoRoom(t, "a short line", hall(), short, x)
			wantNoRoom(t, "a long line", hall(), long, x)
			wantNoRoom(t, "no line", hall(), none, x)
		}
		turned := emptyLines(hall())
		turned[0], turned[4] = turned[4], turned[0]
		wantNoRoom(t, "lines in another order", hall(), turned, x)
	}
	wantNoRoom(t, "too many samples", hall(), emptyLines(hall()), make([]float32, 257))
}
