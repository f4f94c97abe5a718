package tests

import (
	"math"
	"reflect"
	"slices"
	"testing"

	"loop.example/g01170/impl"
)

// delayBits are compared instead of delays, which can have not-a-numbers.
func delayBits(d impl.Delay) [5]int64 {
	flush := int64(0)
	if d.Flush {
		flush = 1
	}
	return [5]int64{d.Length, int64(math.Float32bits(d.Feedback)), int64(math.Float32bits(d.Dry)), int64(math.Float32bits(d.Wet)), flush}
}

func guardDelays(list []impl.Delay) guarded[impl.Delay] {
	return guard(list, impl.Delay{Length: -77}, func(a, b []impl.Delay) bool {
		return slices.EqualFunc(a, b, func(d, e impl.Delay) bool { return delayBits(d) == delayBits(e) })
	})
}

func guardPasses(list []impl.Pass) guarded[impl.Pass] {
	return guard(list, impl.Pass{Length: -77}, func(a, b []impl.Pass) bool {
		return slices.EqualFunc(a, b, func(p, q impl.Pass) bool {
			return p.Length == q.Length && math.Float32bits(p.Gain) == math.Float32bits(q.Gain)
		})
	})
}

func guardTaps(list []impl.Tap) guarded[impl.Tap] {
	return guard(list, impl.Tap{Back: -77}, func(a, b []impl.Tap) bool {
		return slices.EqualFunc(a, b, func(p, q impl.Tap) bool {
			return p.Back == q.Back && math.Float32bits(p.Gain) == math.Float32bits(q.Gain)
		})
	})
}

// guardedLines guards the lines of a room, their list, and the parts of the room.
type guardedLines struct {
	room   impl.Room
	lines  [][]float32
	combs  guarded[impl.Delay]
	passes guarded[impl.Pass]
	inner  []guarded[float32]
	outer  guarded[[]float32]
}

// isSameMemory reports whether two lists of lines have the same lines, and not just equal ones.
func isSameMemory(a, b [][]float32) bool {
	return slices.EqualFunc(a, b, func(p, q []float32) bool {
		return len(p) == len(q) && cap(p) == cap(q) && (cap(p) == 0 || &p[:1][0] == &q[:1][0])
	})
}

func guardLines(r impl.Room, lines [][]float32) guardedLines {
	var g guardedLines
	for _, line := range lines {
		g.inner = append(g.inner, guardNumbers(line))
		g.lines = append(g.lines, g.inner[len(g.inner)-1].list)
	}
	g.outer = guard(g.lines, []float32{-77}, isSameMemory)
	g.lines = g.outer.list
	g.combs, g.passes = guardDelays(r.Combs), guardPasses(r.Passes)
	g.room = r
	g.room.Combs, g.room.Passes = g.combs.list, g.passes.list
	return g
}

func (g guardedLines) isUntouched() bool {
	for _, line := range g.inner {
		if !line.isUntouched() {
			return false
		}
	}
	return g.outer.isUntouched() && g.combs.isUntouched() && g.passes.isUntouched()
}

func allLineBits(lines [][]float32) [][]uint32 {
	bits := make([][]uint32, len(lines))
	for i, line := range lines {
		bits[i] = allBits(line)
	}
	return bits
}

func pairOutcome(results, line []float32, ok bool) []any { return plain(results, line, ok) }

func linesOutcome(lines [][]float32, ok bool) []any { return plain(allLineBits(lines), ok) }

func roomOutcome(results []float32, lines [][]float32, ok bool) []any {
	return plain(results, allLineBits(lines), ok)
}

func anyLengths() []int64 { return append(anyIntegers(), 1, 3, 8, 63, 64, 65) }

func TestPromise1FunctionsOfLines(t *testing.T) {
	for _, first := range anyLists() {
		line := guardNumbers(first)
		for _, second := range append(anyLists(), mixedSamples(9, 64)) {
			x := guardNumbers(second)
			for _, n := range append(anyLengths(), int64(len(first))) {
				d := impl.Delay{Length: n, Feedback: 0.5, Dry: notANum, Wet: infinity, Flush: n%2 == 0}
				wantTwice(t, "functions of a line", func() []any {
					return slices.Concat(pairOutcome(impl.RunDelay(d, line.list, x.list)), outcome(impl.SilentFrom(d, line.list)),
						pairOutcome(impl.RunPass(impl.Pass{Length: n, Gain: 0.5}, line.list, x.list)), plain(impl.ValidDelay(d)))
				})
			}
			if !line.isUntouched() || !x.isUntouched() {
				t.Errorf("a line of %d numbers or %d samples were modified", len(first), len(second))
			}
		}
	}
	for _, n := range anyLengths() {
		wantTwice(t, "EmptyLine", func() []any { return outcome(impl.EmptyLine(n)) })
	}
}

func TestPromise1SilenceAlwaysReturns(t *testing.T) {
	for n := 1; n <= 64; n++ {
		for _, x := range edgeNumbers() {
			for _, flush := range []bool{false, true} {
				line := guardNumbers(slices.Concat(edgeNumbers(), edgeNumbers())[:n])
				same := guardNumbers(repeated(x, n))
				d := impl.Delay{Length: int64(n), Feedback: x, Dry: x, Wet: x, Flush: flush}
				wantTwice(t, "SilentFrom", func() []any {
					return slices.Concat(outcome(impl.SilentFrom(d, line.list)), outcome(impl.SilentFrom(d, same.list)))
				})
				if !line.isUntouched() || !same.isUntouched() {
					t.Errorf("a line of %d numbers was modified", n)
				}
			}
		}
	}
}

func anyRooms() []guardedLines {
	list := []guardedLines{guardLines(impl.Room{}, nil), guardLines(hall(), nil), guardLines(hall(), emptyLines(hall())[:6])}
	for style := range styles {
		for combs := range 6 {
			for passes := range 5 {
				list = append(list, guardLines(roomOfStyle(style, combs+10*passes, combs, passes)))
			}
		}
	}
	for _, r := range wrongRooms() {
		list = append(list, guardLines(r, emptyLines(hall())))
	}
	return append(list, guardLines(impl.Room{Combs: make([]impl.Delay, 100000), Passes: make([]impl.Pass, 100000)}, make([][]float32, 200000)))
}

func TestPromise1FunctionsOfRooms(t *testing.T) {
	for _, g := range anyRooms() {
		for _, list := range anyLists() {
			x := guardNumbers(list)
			wantTwice(t, "RunRoom", func() []any { return roomOutcome(impl.RunRoom(g.room, g.lines, x.list)) })
			if !x.isUntouched() {
				t.Errorf("%d samples were modified", len(list))
			}
		}
		for _, count := range []int64{math.MinInt64, -1, 0, 1, 255, 256, 257, math.MaxInt64} {
			wantTwice(t, "functions of a room", func() []any {
				return slices.Concat(outcome(impl.AnswerOf(g.room, count)), linesOutcome(impl.EmptyRoom(g.room)), plain(impl.ValidRoom(g.room)))
			})
		}
		if !g.isUntouched() {
			t.Errorf("a room of %d combs and %d passes or its lines were modified", len(g.room.Combs), len(g.room.Passes))
		}
	}
}

func TestPromise1FunctionsOfTaps(t *testing.T) {
	for count := range 11 {
		for _, first := range append(anyLists(), counted()) {
			for _, second := range anyLists() {
				taps, past, x := guardTaps(tapsOfStyle(1, count, count)), guardNumbers(first), guardNumbers(second)
				wantTwice(t, "functions of taps", func() []any {
					return slices.Concat(pairOutcome(impl.RunTaps(taps.list, past.list, x.list)), plain(impl.ValidTaps(taps.list)))
				})
				if !taps.isUntouched() || !past.isUntouched() || !x.isUntouched() {
					t.Errorf("%d taps, %d numbers or %d samples were modified", count, len(first), len(second))
				}
			}
		}
	}
	wantTwice(t, "wrong taps", func() []any {
		return pairOutcome(impl.RunTaps([]impl.Tap{{Back: math.MinInt64}, {Back: math.MaxInt64}}, counted(), []float32{1}))
	})
}

func anyTables() [][]int64 {
	return [][]int64{nil, {}, {1}, {0}, {1, 2, 3}, {64}, slices.Repeat([]int64{1}, 64), slices.Repeat([]int64{1}, 65), anyIntegers()}
}

func TestPromise1Choruses(t *testing.T) {
	for _, numbers := range anyTables() {
		for _, first := range append(anyLists(), counted()) {
			for _, second := range anyLists() {
				table, line, x := guardValues(numbers), guardNumbers(first), guardNumbers(second)
				for _, from := range anyIntegers() {
					wantTwice(t, "RunChorus", func() []any { return pairOutcome(impl.RunChorus(table.list, notANum, line.list, from, x.list)) })
				}
				if !table.isUntouched() || !line.isUntouched() || !x.isUntouched() {
					t.Errorf("a table of %d, a line of %d numbers or %d samples were modified", len(numbers), len(first), len(second))
				}
			}
		}
	}
}

// wantOwnMemory writes into all memory of each list in turn, and looks at the others.
func wantOwnMemory(t *testing.T, what string, lists ...[]float32) {
	t.Helper()
	for i := range lists {
		before := make([][]float32, len(lists))
		for k, list := range lists {
			before[k] = slices.Clone(list)
		}
		overwrite(lists[i])
		for k, list := range lists {
			if k != i && !sameBits(list, before[k]) {
				t.Errorf("%s: the results %d and %d share memory", what, i, k)
			}
		}
	}
}

func TestPromise1LinesShareNoMemory(t *testing.T) {
	for _, n := range []int{1, 2, 64} {
		for _, count := range []int{0, 1, 64, 256} {
			line, x := guardNumbers(mixedSamples(n, n)), guardNumbers(mixedSamples(n+1, count))
			past := guardNumbers(counted())
			delayed, first, _ := impl.RunDelay(impl.Delay{Length: int64(n), Wet: 1}, line.list, x.list)
			passed, second, _ := impl.RunPass(impl.Pass{Length: int64(n)}, line.list, x.list)
			tapped, third, _ := impl.RunTaps([]impl.Tap{{Back: 0, Gain: 1}}, past.list, x.list)
			moved, fourth, _ := impl.RunChorus([]int64{1}, 0, line.list, 0, x.list)
			empty, _ := impl.EmptyLine(int64(n))
			again, _ := impl.EmptyLine(int64(n))
			wantOwnMemory(t, "lines", delayed, first, passed, second, tapped, third, moved, fourth, empty, again)
			if !line.isUntouched() || !x.isUntouched() || !past.isUntouched() {
				t.Errorf("a result of a line of %d numbers and %d samples shares memory with an argument", n, count)
			}
		}
	}
}

func TestPromise1RoomsShareNoMemory(t *testing.T) {
	for combs := 1; combs <= 4; combs++ {
		for passes := range 4 {
			for _, count := range []int{0, 1, 256} {
				g, x := guardLines(roomOfStyle(0, combs, combs, passes)), guardNumbers(mixedSamples(combs, count))
				results, last, _ := impl.RunRoom(g.room, g.lines, x.list)
				more, end, _ := impl.RunRoom(g.room, g.lines, x.list)
				empty, _ := impl.EmptyRoom(g.room)
				again, _ := impl.EmptyRoom(g.room)
				answer, _ := impl.AnswerOf(g.room, 5)
				wantOwnMemory(t, "rooms", slices.Concat([][]float32{results, more, answer}, last, end, empty, again)...)
				for _, lines := range [][][]float32{last, end, empty, again} {
					clear(lines[:cap(lines)])
				}
				if !g.isUntouched() || !x.isUntouched() {
					t.Errorf("a result of a room of %d combs and %d passes shares memory with an argument", combs, passes)
				}
			}
		}
	}
}

func TestPromise1DelaysOfNilAndEmptyLists(t *testing.T) {
	line, none := []float32{1}, []float32{}
	r, lines := impl.Room{Combs: []impl.Delay{{Length: 1}}}, [][]float32{{1}}
	for i, pair := range [][2][]any{
		{pairOutcome(impl.RunDelay(impl.Delay{Length: 1}, line, nil)), pairOutcome(impl.RunDelay(impl.Delay{Length: 1}, line, none))},
		{pairOutcome(impl.RunPass(impl.Pass{Length: 1}, line, nil)), pairOutcome(impl.RunPass(impl.Pass{Length: 1}, line, none))},
		{roomOutcome(impl.RunRoom(r, lines, nil)), roomOutcome(impl.RunRoom(impl.Room{Combs: r.Combs, Passes: []impl.Pass{}}, lines, none))},
		{linesOutcome(impl.EmptyRoom(r)), linesOutcome(impl.EmptyRoom(impl.Room{Combs: r.Combs, Passes: []impl.Pass{}}))},
		{pairOutcome(impl.RunTaps(nil, counted(), none)), pairOutcome(impl.RunTaps([]impl.Tap{}, counted(), nil))},
		{pairOutcome(impl.RunChorus([]int64{1}, 1, line, 0, nil)), pairOutcome(impl.RunChorus([]int64{1}, 1, line, 0, none))},
		{plain(impl.ValidTaps(nil)), plain(impl.ValidTaps([]impl.Tap{}))},
	} {
		if !reflect.DeepEqual(pair[0], pair[1]) || pair[0][len(pair[0])-1] != true {
			t.Errorf("pair %d: %v and %v", i, pair[0], pair[1])
		}
	}
}
