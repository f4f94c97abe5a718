package tests

import (
	"testing"

	"loop.example/g01170/impl"
)

// chainRow has the check numbers of the texts of samples and states behind two chains, one by one and both at once, and of impulses.
type chainRow struct {
	scale    float32
	each     [2]int64
	long     [2]int64
	both     [3]int64
	impulses [2]int64
}

// chainRows were computed apart from the program.
func chainRows() []chainRow {
	return []chainRow{
		{1, [2]int64{15580, 33145}, [2]int64{27961, 29485}, [3]int64{61269, 29806, 17928}, [2]int64{35639, 11240}},
		{0x1p-131, [2]int64{37067, 29483}, [2]int64{12148, 45896}, [3]int64{19214, 40935, 22089}, [2]int64{35639, 11240}},
	}
}

func longChain() []impl.Effect {
	return chainOf(echoOf(32, 0.75, -0.5), limitAt(32, 0.3, 0.01), filterWith(0.3, 0.1, 0.2, -0.9, 0.4),
		squeezeWith(0.3, 0.05, 0.7, 3), echoOf(7, -0.6, 0.9), limitAt(0, 0.25, 0.5))
}

func scaledState(list []impl.Effect, seed int, scale float32) [][]float32 {
	var state [][]float32
	for i, e := range list {
		state = append(state, scaled(mixedSamples(seed+i, stateLength(e)), scale))
	}
	return state
}

func checkOfState(t *testing.T, list []impl.Effect, state [][]float32) int64 {
	t.Helper()
	text, ok := impl.StateText(list, state)
	check, also := impl.CheckOf(0, text)
	if !ok || !also {
		t.Errorf("%v has no text", state)
	}
	return check
}

func checksOfChain(t *testing.T, list []impl.Effect, seed int, scale float32) [2]int64 {
	t.Helper()
	out, state, _ := impl.RunChain(list, scaledState(list, seed, scale), scaled(mixedSamples(seed+9, 256), scale))
	return [2]int64{checkOfSamples(t, out), checkOfState(t, list, state)}
}

func checksOfBoth(t *testing.T, a, b []impl.Effect, scale float32) [3]int64 {
	t.Helper()
	x := scaled(mixedSamples(8070, 256), scale)
	sums, first, second, _ := impl.RunBoth(a, b, scaledState(a, 8050, scale), scaledState(b, 8060, scale), x)
	return [3]int64{checkOfSamples(t, sums), checkOfState(t, a, first), checkOfState(t, b, second)}
}

func TestChapter8ChainsComputedApart(t *testing.T) {
	each, long := oneOfEach(), longChain()
	for _, want := range chainRows() {
		got := chainRow{scale: want.scale}
		got.each = checksOfChain(t, each, 8010, want.scale)
		got.long = checksOfChain(t, long, 8030, want.scale)
		got.both = checksOfBoth(t, each, long, want.scale)
		first, _ := impl.ImpulseOfChain(each, 256)
		second, _ := impl.ImpulseOfChain(long, 200)
		got.impulses = [2]int64{checkOfSamples(t, first), checkOfSamples(t, second)}
		if got != want {
			t.Errorf("got %v, want %v", got, want)
		}
	}
}
