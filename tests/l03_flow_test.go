package tests

import (
	"math"
	"math/rand"
	"testing"

	"loop.example/g03317/impl"
)

func levelOk(n int) bool {
	return n >= 0 && n <= impl.MaxLevel
}

// naiveFlow counts the root up; it takes valid weirs alone.
func naiveFlow(w impl.Weir, up int, down int) int {
	fall := up - w.Crest
	if down > w.Crest {
		fall = up - down
	}
	if fall <= 0 || !levelOk(up) || !levelOk(down) {
		return 0
	}
	root := 0
	for (root+1)*(root+1) <= fall {
		root++
	}
	return w.Open * w.Width * root / 10
}

// naiveOpenFor tries one Open after the other.
func naiveOpenFor(w impl.Weir, up int, down int, flow int) int {
	if !levelOk(up) || !levelOk(down) {
		return 0
	}
	for open := range 10 * w.Gates {
		if naiveFlow(opened(w, open), up, down) >= flow {
			return open
		}
	}
	return 10 * w.Gates
}

func TestGateFlow(t *testing.T) {
	full := impl.Weir{Gates: 8, Open: 80, Step: 3, Crest: 0, Width: 1000}
	known := []struct {
		w              impl.Weir
		up, down, want int
	}{
		{plainWeir(), 75, 20, 10}, {plainWeir(), 75, 50, 10}, {plainWeir(), 75, 51, 8}, {plainWeir(), 75, 66, 6},
		{plainWeir(), 75, 74, 2}, {plainWeir(), 75, 75, 0}, {plainWeir(), 75, 76, 0}, {plainWeir(), 75, 99999, 0},
		{plainWeir(), 50, 20, 0}, {plainWeir(), 49, 20, 0}, {plainWeir(), 51, 20, 2}, {plainWeir(), 53, 20, 2}, {plainWeir(), 54, 20, 4},
		{plainWeir(), 0, 0, 0}, {plainWeir(), 0, impl.MaxLevel, 0}, {plainWeir(), impl.MaxLevel, impl.MaxLevel, 0},
		{plainWeir(), impl.MaxLevel, impl.MaxLevel - 1, 2}, {plainWeir(), impl.MaxLevel, 0, 632},
		{opened(plainWeir(), 0), 75, 20, 0}, {opened(plainWeir(), 1), 75, 20, 2}, {opened(plainWeir(), 20), 75, 20, 40},
		// What is not whole is rounded down.
		{impl.Weir{Gates: 1, Open: 3, Step: 1, Crest: 0, Width: 7}, 10, 0, 6},
		{impl.Weir{Gates: 1, Open: 9, Step: 1, Crest: 0, Width: 1}, 1, 0, 0},
		{impl.Weir{Gates: 1, Open: 9, Step: 1, Crest: 0, Width: 1}, 4, 0, 1},
		{impl.Weir{Gates: 1, Open: 10, Step: 1, Crest: 0, Width: 1}, 1, 0, 1},
		{full, impl.MaxLevel, 0, 2528000}, {full, 1, 0, 8000}, {full, 0, 0, 0},
		{impl.Weir{Gates: 8, Open: 80, Step: 3, Crest: impl.MaxLevel, Width: 1000}, impl.MaxLevel, 0, 0},
		{impl.Weir{Gates: 8, Open: 80, Step: 3, Crest: impl.MaxLevel - 1, Width: 1000}, impl.MaxLevel, 0, 8000},
	}
	for _, k := range known {
		if got := impl.GateFlow(k.w, k.up, k.down); got != k.want {
			t.Errorf("GateFlow(%+v, %d, %d) = %d, not %d", k.w, k.up, k.down, got, k.want)
		}
	}
}

func TestFlowsOfManyWeirs(t *testing.T) {
	levels := append([]int{49, 50, 51, 66, impl.MaxLevel - 1, impl.MaxLevel, impl.MaxLevel + 1}, extremes...)
	for _, w := range validWeirs() {
		for _, up := range levels {
			for _, down := range levels {
				if got, want := impl.GateFlow(w, up, down), naiveFlow(w, up, down); got != want {
					t.Errorf("GateFlow(%+v, %d, %d) = %d, not %d", w, up, down, got, want)
				}
				for _, flow := range append([]int{3, 8, 100, 2528000, 2528001}, extremes...) {
					if got, want := impl.OpenFor(w, up, down, flow), naiveOpenFor(w, up, down, flow); got != want {
						t.Errorf("OpenFor(%+v, %d, %d, %d) = %d, not %d", w, up, down, flow, got, want)
					}
				}
			}
		}
	}
}

func TestInvalidWeirsHaveNoFlow(t *testing.T) {
	levels := append([]int{50, 75, impl.MaxLevel, impl.MaxLevel + 1}, extremes...)
	for _, w := range invalidWeirs() {
		for _, up := range levels {
			for _, down := range []int{0, 20, math.MinInt, math.MaxInt} {
				flow, open, none := impl.GateFlow(w, up, down), impl.OpenFor(w, up, down, 3), impl.OpenFor(w, up, down, math.MaxInt)
				if flow != 0 || open != 0 || none != 0 {
					t.Errorf("GateFlow and OpenFor(%+v, %d, %d) = %d, %d, %d", w, up, down, flow, open, none)
				}
			}
		}
	}
}

func TestOpenFor(t *testing.T) {
	known := []struct{ up, down, flow, want int }{
		{75, 20, 10, 5}, {75, 20, 9, 5}, {75, 20, 8, 4}, {75, 20, 11, 6}, {75, 20, 1, 1}, {75, 20, 0, 0}, {75, 20, -1, 0},
		{75, 20, 40, 20}, {75, 20, 39, 20}, {75, 20, 38, 19}, {75, 20, 41, 20}, {75, 20, math.MaxInt, 20}, {75, 20, math.MinInt, 0},
		{75, 75, 0, 0}, {75, 75, 1, 20}, {50, 20, 0, 0}, {50, 20, 1, 20}, {20, 75, 1, 20}, {0, 0, 1, 20},
		{51, 20, 1, 3}, {51, 20, 8, 20}, {51, 20, 9, 20}, {51, 20, 7, 18},
		{impl.MaxLevel, 0, 2528, 20}, {impl.MaxLevel, 0, 2529, 20}, {impl.MaxLevel, 0, 2401, 19}, {impl.MaxLevel, 0, 2402, 20}, {impl.MaxLevel, 0, 126, 1}, {impl.MaxLevel, 0, 127, 2}, {impl.MaxLevel, impl.MaxLevel, 5, 20},
		{-1, 20, 10, 0}, {impl.MaxLevel + 1, 20, 10, 0}, {75, -1, 10, 0}, {75, impl.MaxLevel + 1, 10, 0}, {-1, -1, 10, 0},
		{math.MinInt, 20, 10, 0}, {math.MaxInt, 20, 10, 0}, {75, math.MinInt, 10, 0}, {75, math.MaxInt, 10, 0},
		{math.MaxInt, math.MinInt, 10, 0}, {math.MinInt, math.MaxInt, 10, 0},
	}
	for _, k := range known {
		// Neither the Open that the weir has nor its Step counts.
		for _, open := range []int{0, 5, 20} {
			if got := impl.OpenFor(opened(plainWeir(), open), k.up, k.down, k.flow); got != k.want {
				t.Errorf("OpenFor %d at %d and %d, open by %d, = %d, not %d", k.flow, k.up, k.down, open, got, k.want)
			}
		}
	}
}

func TestOpenForIsTheLeast(t *testing.T) {
	rnd := rand.New(rand.NewSource(32))
	for range 500 {
		w, up, down := randomWeir(rnd), rnd.Intn(200), rnd.Intn(120)
		greatest := naiveFlow(opened(w, 10*w.Gates), up, down)
		for flow := -1; flow <= greatest+2; flow++ {
			if got, want := impl.OpenFor(w, up, down, flow), naiveOpenFor(w, up, down, flow); got != want {
				t.Fatalf("OpenFor(%+v, %d, %d, %d) = %d, not %d", w, up, down, flow, got, want)
			}
		}
	}
}

func TestMoreFlowsThroughAGateThatIsOpenedMore(t *testing.T) {
	rnd := rand.New(rand.NewSource(33))
	for range 2000 {
		w, up, down := randomWeir(rnd), rnd.Intn(200), rnd.Intn(120)
		falls := up > max(w.Crest, down)
		flows := make([]int, 10*w.Gates+1)
		for open := range flows {
			flows[open] = impl.GateFlow(opened(w, open), up, down)
			if open > 0 && flows[open] < flows[open-1] {
				t.Errorf("%+v at %d and %d: with %d less flows than before", w, up, down, open)
			}
			// The flow is rounded, so that a tenth may not suffice; a whole gate does.
			if open >= 10 && falls && flows[open] <= flows[open-10] {
				t.Errorf("%+v at %d and %d: with %d no more flows than with %d", w, up, down, open, open-10)
			}
		}
		if flows[0] != 0 || !falls && flows[10*w.Gates] != 0 {
			t.Errorf("%+v at %d and %d: %v", w, up, down, flows)
		}
	}
}

func TestSteeredWeirsLetThroughWhatIsWanted(t *testing.T) {
	rule := impl.Rule{Low: 50, High: 70, Flood: 90}
	for up := 51; up < 90; up++ {
		for inflow := range 15 {
			w := impl.Weir{Gates: 4, Open: 17, Step: 3, Crest: 40, Width: 6}
			// 40 tenths by steps of 3: in 14 steps every Open is reached.
			for range 14 {
				next := impl.SteerWeir(w, rule, up, 20, inflow)
				if next.Open < w.Open-w.Step || next.Open > w.Open+w.Step || next != opened(w, next.Open) {
					t.Fatalf("%+v has become %+v", w, next)
				}
				w = next
			}
			wanted := impl.WantedFlow(rule, up, inflow)
			if impl.GateFlow(w, up, 20) < wanted || w.Open > 0 && impl.GateFlow(opened(w, w.Open-1), up, 20) >= wanted {
				t.Errorf("at %d with %d: %d is wanted of %+v", up, inflow, wanted, w)
			}
		}
	}
}
