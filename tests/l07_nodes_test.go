package tests

import (
	"math"
	"slices"
	"testing"

	"loop.example/g01170/impl"
)

// plainSignals does what the document tells of signals, apart from the program.
func plainSignals(inputs [][]float32, sends []impl.Send) [][]float32 {
	signals := make([][]float32, len(inputs))
	for node, input := range inputs {
		signals[node] = make([]float32, len(input))
		for i, x := range input {
			for _, s := range sends {
				if s.To == int64(node) {
					x = plus(x, times(s.Gain, signals[s.From][i]))
				}
			}
			signals[node][i] = x
		}
	}
	return signals
}

// leads reports whether sends lead from a node to another one or are not needed to.
func leads(sends []impl.Send, from, to int64) bool {
	return from == to || slices.ContainsFunc(sends, func(s impl.Send) bool { return s.From == from && leads(sends, s.To, to) })
}

// sendsOfStyle are in no order, and several of them can lead from one node to the same other one.
func sendsOfStyle(style, seed int, nodes int64, count int) []impl.Send {
	if nodes < 2 {
		return nil
	}
	sends, gains := make([]impl.Send, count), gainsOfStyle(style, seed, count)
	for i := range sends {
		to := 1 + int64(mixedBits(seed, 5000+i))%(nodes-1)
		sends[i] = impl.Send{From: int64(mixedBits(seed, 6000+i)) % to, To: to, Gain: gains[i]}
	}
	return sends
}

func inputsOfStyle(style, seed int, nodes int64, count int) [][]float32 {
	inputs := make([][]float32, nodes)
	for node := range inputs {
		inputs[node] = samplesOfStyle(style, seed+node, count)
	}
	return inputs
}

func wantSignals(t *testing.T, what string, inputs [][]float32, sends []impl.Send, want ...[]float32) {
	t.Helper()
	got, ok := impl.MixNodes(inputs, sends)
	wantLines(t, what, got, ok, want)
}

func wantNoSignals(t *testing.T, what string, inputs [][]float32, sends []impl.Send) {
	t.Helper()
	got, ok := impl.MixNodes(inputs, sends)
	wantNoList(t, what, got, ok)
}

func wantSends(t *testing.T, what string, nodes int64, sends []impl.Send, want bool) {
	t.Helper()
	if impl.AreSends(nodes, sends) != want {
		t.Errorf("%s: AreSends of %d nodes and %v is not %v", what, nodes, sends, want)
	}
}

// wantNoNetwork is for a number of nodes and sends of which one is wrong.
func wantNoNetwork(t *testing.T, what string, nodes int64, sends []impl.Send) {
	t.Helper()
	wantSends(t, what, nodes, sends, false)
	used, ok := impl.UsedNodes(nodes, sends)
	wantNoList(t, what, used, ok)
	gain, ok := impl.GainBetween(nodes, sends, 0, 0)
	wantZero(t, what, gain, ok)
	if nodes >= 0 && nodes <= 9 {
		wantNoSignals(t, what, inputsOfStyle(0, 1800, nodes, 3), sends)
		wantNoSignals(t, what, inputsOfStyle(0, 1800, nodes, 0), sends)
	}
}

func wantUsed(t *testing.T, what string, nodes int64, sends []impl.Send, want ...int64) {
	t.Helper()
	got, ok := impl.UsedNodes(nodes, sends)
	wantIntegers(t, what, got, ok, want)
}

func wantGain(t *testing.T, what string, nodes int64, sends []impl.Send, from, to int64, want float32) {
	t.Helper()
	got, ok := impl.GainBetween(nodes, sends, from, to)
	wantSum(t, what, got, ok, want)
}

func wrongNodes() []int64 {
	return []int64{0, -1, 9, 1 << 32, 1<<32 + 1, math.MinInt64, math.MinInt64 + 1, math.MaxInt64}
}

// wrongSends are those of three nodes.
func wrongSends() []impl.Send {
	return []impl.Send{
		{From: 0, To: 0}, {From: 2, To: 2}, {From: 1, To: 0}, {From: 2, To: 1}, {From: 0, To: 3}, {From: 2, To: 3}, {From: 3, To: 4},
		{From: -1, To: 0}, {From: -1, To: 1}, {From: -2, To: -1}, {From: 0, To: -1}, {From: 1 << 32, To: 1<<32 + 1}, {From: 0, To: 1<<32 + 1},
		{From: math.MinInt64, To: 1}, {From: 0, To: math.MaxInt64}, {From: math.MinInt64, To: math.MaxInt64},
		{From: math.MaxInt64, To: math.MinInt64}, {From: math.MaxInt64, To: 1}, {From: 0, To: math.MinInt64},
	}
}

func TestChapter7AreSends(t *testing.T) {
	for nodes := int64(1); nodes <= 8; nodes++ {
		wantSends(t, "none", nodes, nil, true)
		for from := int64(-1); from <= 9; from++ {
			for to := int64(-1); to <= 9; to++ {
				isRight := from >= 0 && from < to && to < nodes
				wantSends(t, "one send", nodes, []impl.Send{{From: from, To: to, Gain: 1}}, isRight)
				if !isRight {
					wantNoNetwork(t, "one send", nodes, []impl.Send{{From: from, To: to, Gain: 1}})
				}
			}
		}
	}
	for _, gain := range edgeNumbers() {
		wantSends(t, "any gain", 2, []impl.Send{{From: 0, To: 1, Gain: gain}}, true)
	}
	most := slices.Repeat([]impl.Send{{From: 0, To: 1, Gain: 1}}, 20)
	wantSends(t, "MaxSends", 2, most, true)
	wantNoNetwork(t, "one more", 2, append(most, most[0]))
	wantNoNetwork(t, "many more", 8, slices.Repeat(most, 5000))
	wantNoNetwork(t, "many wrong ones", 8, make([]impl.Send, 100000))
}

func TestChapter7WrongNodesAndSends(t *testing.T) {
	for _, nodes := range wrongNodes() {
		wantNoNetwork(t, "wrong nodes", nodes, nil)
		wantNoNetwork(t, "wrong nodes and a send", nodes, []impl.Send{{From: 0, To: 1}})
		wantNoNetwork(t, "wrong nodes and a wrong send", nodes, []impl.Send{{From: math.MinInt64, To: math.MaxInt64}})
	}
	for _, wrong := range wrongSends() {
		wantNoNetwork(t, "a wrong send", 3, []impl.Send{wrong})
		wantNoNetwork(t, "the first one is wrong", 3, []impl.Send{wrong, {From: 0, To: 2}})
		wantNoNetwork(t, "the last one is wrong", 3, []impl.Send{{From: 0, To: 1}, {From: 1, To: 2}, wrong})
	}
}

func TestChapter7SignalsByHand(t *testing.T) {
	wantSignals(t, "one node", [][]float32{{1, minus0, notANum, infinity, tiny}}, nil, []float32{1, minus0, notANum, infinity, tiny})
	wantSignals(t, "no sends", [][]float32{{1, 2}, {3, 4}}, nil, []float32{1, 2}, []float32{3, 4})
	wantSignals(t, "no samples", [][]float32{nil, {}, nil}, []impl.Send{{From: 0, To: 2, Gain: 1}}, nil, nil, nil)
	wantSignals(t, "one send", [][]float32{{1, 2}, {3, 4}}, []impl.Send{{From: 0, To: 1, Gain: 10}}, []float32{1, 2}, []float32{13, 24})
	chain := []impl.Send{{From: 0, To: 1, Gain: 0.5}, {From: 1, To: 2, Gain: 0.5}}
	wantSignals(t, "over another one", [][]float32{{8}, {0}, {0}}, chain, []float32{8}, []float32{4}, []float32{2})
	slices.Reverse(chain)
	wantSignals(t, "the later node first", [][]float32{{8}, {0}, {0}}, chain, []float32{8}, []float32{4}, []float32{2})
	several := []impl.Send{{From: 0, To: 1, Gain: 1}, {From: 0, To: 1, Gain: 2}, {From: 0, To: 1, Gain: -4}}
	wantSignals(t, "several between the same two", [][]float32{{1}, {10}}, several, []float32{1}, []float32{9})
	far := []impl.Send{{From: 0, To: 7, Gain: 3}}
	wantSignals(t, "MaxNodes", [][]float32{{1}, {2}, {3}, {4}, {5}, {6}, {7}, {8}}, far, []float32{1}, []float32{2}, []float32{3}, []float32{4}, []float32{5}, []float32{6}, []float32{7}, []float32{11})
	alone := []impl.Send{{From: 0, To: 2, Gain: 1}}
	wantSignals(t, "a node that nothing reaches, and from which nothing leads on", [][]float32{{1}, {notANum}, {3}}, alone, []float32{1}, []float32{notANum}, []float32{4})
}

func TestChapter7SignalsAreAddedInOrder(t *testing.T) {
	const big = 16777216
	one := [][]float32{{1}, {big}}
	wantSignals(t, "the input is first", one, []impl.Send{{From: 0, To: 1, Gain: 1}, {From: 0, To: 1, Gain: 1}}, []float32{1}, []float32{big})
	one[1][0] = 0
	wantSignals(t, "the ones are lost", one, []impl.Send{{From: 0, To: 1, Gain: big}, {From: 0, To: 1, Gain: 1}, {From: 0, To: 1, Gain: 1}, {From: 0, To: 1, Gain: -big}}, []float32{1}, []float32{0})
	wantSignals(t, "the ones stay", one, []impl.Send{{From: 0, To: 1, Gain: 1}, {From: 0, To: 1, Gain: 1}, {From: 0, To: 1, Gain: big}, {From: 0, To: 1, Gain: -big}}, []float32{1}, []float32{2})
	two := [][]float32{{1}, {big}, {0}}
	wantSignals(t, "not in the order of their nodes", two, []impl.Send{{From: 1, To: 2, Gain: 1}, {From: 0, To: 2, Gain: 1}, {From: 1, To: 2, Gain: -1}}, []float32{1}, []float32{big}, []float32{0})
	wantSignals(t, "both large ones first", two, []impl.Send{{From: 1, To: 2, Gain: 1}, {From: 1, To: 2, Gain: -1}, {From: 0, To: 2, Gain: 1}}, []float32{1}, []float32{big}, []float32{1})
}

func TestChapter7SignalsOfEdges(t *testing.T) {
	send := func(gain float32) []impl.Send { return []impl.Send{{From: 0, To: 1, Gain: gain}} }
	for _, row := range [][4]float32{
		{0, minus0, 1, 0}, {minus0, minus0, 1, minus0}, {minus0, 0, 1, 0}, {0, minus0, -1, minus0}, {0, 5, infinity, notANum},
		{infinity, 5, 0, notANum}, {infinity, 5, 1, infinity}, {infinity, -infinity, 1, notANum}, {notANum, 5, 0, notANum},
		{1, 5, notANum, notANum}, {largest, largest, 1, infinity}, {largest, -largest, 1, 0}, {tiny, tiny, 1, times(2, tiny)},
		{tiny, 0, 0.5, 0}, {tiny, 0, -0.25, 0}, {tiny, minus0, -0.25, minus0}, {0x1p-126, 0, 0.5, 0x1p-127},
	} {
		wantSignals(t, "input, other one, gain and signal", [][]float32{{row[0]}, {row[1]}}, send(row[2]), row[:1], row[3:])
	}
}

func TestChapter7SignalsOfAllLengths(t *testing.T) {
	for style := range styles {
		for nodes := int64(1); nodes <= 8; nodes++ {
			for k, count := range lengths() {
				sends := sendsOfStyle(style, 1810+k, nodes, []int{0, 1, 3, 12, 13, 20}[k%6])
				inputs := inputsOfStyle(style, 1830+count, nodes, count)
				wantSignals(t, "any sends", inputs, sends, plainSignals(inputs, sends)...)
			}
		}
	}
}

func TestChapter7InputsWithWrongLengths(t *testing.T) {
	send := []impl.Send{{From: 0, To: 1, Gain: 1}}
	for _, lens := range [][2]int{{0, 1}, {1, 0}, {1, 2}, {2, 1}, {255, 256}, {256, 255}, {256, 257}, {257, 256}, {257, 257}, {1000, 1000}, {0, 257}} {
		inputs := [][]float32{make([]float32, lens[0]), make([]float32, lens[1])}
		wantNoSignals(t, "different or too long ones", inputs, send)
		wantNoSignals(t, "without sends", inputs, nil)
	}
	wantNoSignals(t, "the last one of three", [][]float32{{1}, {2}, {3, 4}}, nil)
	wantNoSignals(t, "the middle one of three", [][]float32{{1}, nil, {3}}, nil)
	wantNoSignals(t, "one node with one sample more", [][]float32{make([]float32, 257)}, nil)
	wantNoSignals(t, "no nodes", nil, nil)
	wantNoSignals(t, "no nodes", [][]float32{}, nil)
	wantNoSignals(t, "many nodes", make([][]float32, 100000), nil)
}

func TestChapter7UsedNodesByHand(t *testing.T) {
	wantUsed(t, "one node", 1, nil, 0)
	wantUsed(t, "no sends", 8, nil, 7)
	wantUsed(t, "over another one", 3, []impl.Send{{From: 0, To: 1}, {From: 1, To: 2}}, 0, 1, 2)
	wantUsed(t, "the later node first", 3, []impl.Send{{From: 1, To: 2}, {From: 0, To: 1}}, 0, 1, 2)
	wantUsed(t, "an end beside the last one", 4, []impl.Send{{From: 0, To: 1}, {From: 1, To: 3}, {From: 0, To: 2}}, 0, 1, 3)
	wantUsed(t, "all sends lead to an end", 4, []impl.Send{{From: 0, To: 2}, {From: 1, To: 2}, {From: 0, To: 1}}, 3)
	wantUsed(t, "a node that nothing reaches", 3, []impl.Send{{From: 1, To: 2}}, 1, 2)
	wantUsed(t, "several between the same two", 3, []impl.Send{{From: 0, To: 2}, {From: 0, To: 2}, {From: 0, To: 2}}, 0, 2)
	wantUsed(t, "the gains do not matter", 4, []impl.Send{{From: 0, To: 3, Gain: 0}, {From: 1, To: 3, Gain: notANum}, {From: 2, To: 3, Gain: minus0}}, 0, 1, 2, 3)
	long := []impl.Send{{From: 0, To: 1}, {From: 1, To: 2}, {From: 2, To: 3}, {From: 3, To: 4}, {From: 4, To: 5}, {From: 5, To: 6}, {From: 6, To: 7}}
	wantUsed(t, "over all", 8, long, 0, 1, 2, 3, 4, 5, 6, 7)
	wantUsed(t, "cut in the middle", 8, slices.Delete(slices.Clone(long), 3, 4), 4, 5, 6, 7)
	slices.Reverse(long)
	wantUsed(t, "over all, the last one first", 8, long, 0, 1, 2, 3, 4, 5, 6, 7)
}

func TestChapter7UsedNodesOfAnySends(t *testing.T) {
	for nodes := int64(1); nodes <= 8; nodes++ {
		for seed := range 200 {
			sends := sendsOfStyle(0, 1900+seed, nodes, seed%21)
			var want []int64
			for node := range nodes {
				if leads(sends, node, nodes-1) {
					want = append(want, node)
				}
			}
			wantUsed(t, "any sends", nodes, sends, want...)
		}
	}
}

func TestChapter7GainsByHand(t *testing.T) {
	chain := []impl.Send{{From: 0, To: 1, Gain: 0.5}, {From: 1, To: 2, Gain: 0.5}}
	wantGain(t, "the example of the document", 3, chain, 0, 2, 0.25)
	wantGain(t, "to itself", 3, chain, 1, 1, 1)
	wantGain(t, "backwards", 3, chain, 2, 0, 0)
	wantGain(t, "one node", 1, nil, 0, 0, 1)
	wantGain(t, "no sends", 8, nil, 0, 7, 0)
	wantGain(t, "several ways", 3, append(chain, impl.Send{From: 0, To: 2, Gain: 4}, impl.Send{From: 0, To: 2, Gain: -1}), 0, 2, 3.25)
	wantGain(t, "an infinite gain from 1", 2, []impl.Send{{From: 0, To: 1, Gain: -infinity}}, 0, 1, -infinity)
	wantGain(t, "an infinite gain from +0", 3, []impl.Send{{From: 0, To: 2, Gain: infinity}}, 1, 2, notANum)
	wantGain(t, "an infinite gain to itself", 2, []impl.Send{{From: 0, To: 1, Gain: infinity}}, 1, 1, notANum)
	wantGain(t, "an infinite gain elsewhere", 4, []impl.Send{{From: 0, To: 3, Gain: infinity}, {From: 1, To: 2, Gain: 2}}, 1, 2, 2)
	wantGain(t, "a negative gain from +0", 2, []impl.Send{{From: 0, To: 1, Gain: -1}}, 1, 0, 0)
	wantGain(t, "-0 is added to +0", 3, []impl.Send{{From: 0, To: 2, Gain: -1}}, 1, 2, 0)
}

func TestChapter7GainsAreSignals(t *testing.T) {
	for style := range styles {
		for nodes := int64(1); nodes <= 8; nodes++ {
			sends := sendsOfStyle(style, 2000+int(nodes), nodes, 20)
			for from := range nodes {
				inputs := make([][]float32, nodes)
				for node := range inputs {
					inputs[node] = []float32{0}
				}
				inputs[from][0] = 1
				signals := plainSignals(inputs, sends)
				for to := range nodes {
					wantGain(t, "any sends", nodes, sends, from, to, signals[to][0])
				}
			}
		}
	}
}

func TestChapter7GainsBetweenWrongNodes(t *testing.T) {
	for nodes := int64(1); nodes <= 8; nodes++ {
		sends := sendsOfStyle(0, 2020, nodes, 5)
		for _, wrong := range []int64{-1, nodes, nodes + 1, 1 << 32, math.MinInt64, math.MaxInt64} {
			for node := range nodes {
				gain, ok := impl.GainBetween(nodes, sends, wrong, node)
				wantZero(t, "a wrong from", gain, ok)
				gain, ok = impl.GainBetween(nodes, sends, node, wrong)
				wantZero(t, "a wrong to", gain, ok)
			}
			gain, ok := impl.GainBetween(nodes, sends, wrong, wrong)
			wantZero(t, "both wrong", gain, ok)
		}
	}
}
