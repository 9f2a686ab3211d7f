package tests

import (
	"math"
	"math/rand"
	"slices"
	"testing"

	"loop.example/g03317/impl"
)

// plainWeir has no number at a limit.
func plainWeir() impl.Weir {
	return impl.Weir{Gates: 2, Open: 5, Step: 3, Crest: 50, Width: 4}
}

func opened(w impl.Weir, open int) impl.Weir {
	w.Open = open
	return w
}

// weirsWith returns plain weirs, but with each of the numbers at the place that set writes to.
func weirsWith(set func(w *impl.Weir, n int), numbers ...int) []impl.Weir {
	var list []impl.Weir
	for _, n := range numbers {
		w := plainWeir()
		set(&w, n)
		list = append(list, w)
	}
	return list
}

func setGates(w *impl.Weir, n int) { w.Gates = n }
func setOpen(w *impl.Weir, n int)  { w.Open = n }
func setStep(w *impl.Weir, n int)  { w.Step = n }
func setCrest(w *impl.Weir, n int) { w.Crest = n }
func setWidth(w *impl.Weir, n int) { w.Width = n }

func validWeirs() []impl.Weir {
	return slices.Concat(
		weirsWith(setGates, 1, 2, impl.MaxGates),
		weirsWith(setOpen, 0, 1, 19, 20),
		weirsWith(setStep, 1, 2, 21, impl.MaxStep),
		weirsWith(setCrest, 0, 1, impl.MaxLevel-1, impl.MaxLevel),
		weirsWith(setWidth, 1, 2, 999, 1000),
		[]impl.Weir{
			{Gates: 1, Open: 0, Step: 1, Crest: 0, Width: 1},
			{Gates: 1, Open: 10, Step: 1, Crest: 0, Width: 1},
			{Gates: impl.MaxGates, Open: 10 * impl.MaxGates, Step: impl.MaxStep, Crest: impl.MaxLevel, Width: 1000},
			{Gates: impl.MaxGates, Open: 10 * impl.MaxGates, Step: impl.MaxStep, Crest: 0, Width: 1000},
		},
	)
}

func invalidWeirs() []impl.Weir {
	far := []int{math.MinInt, math.MinInt + 1, math.MaxInt - 1, math.MaxInt}
	list := []impl.Weir{
		{},
		{Gates: 1, Open: 11, Step: 1, Crest: 0, Width: 1},
		{Gates: impl.MaxGates, Open: 10*impl.MaxGates + 1, Step: 1, Crest: 0, Width: 1},
		{Gates: 0, Open: 0, Step: 1, Crest: 0, Width: 1},
		{Gates: -1, Open: -10, Step: 1, Crest: 0, Width: 1},
		{Gates: impl.MaxGates + 1, Open: 0, Step: 1, Crest: 0, Width: 1},
		// Ten times these is 4 and 0, if it is taken modulo 2^64.
		{Gates: 1844674407370955162, Open: 4, Step: 1, Crest: 0, Width: 1},
		{Gates: math.MinInt, Open: 0, Step: 1, Crest: 0, Width: 1},
		{Gates: math.MaxInt, Open: math.MaxInt, Step: math.MaxInt, Crest: math.MaxInt, Width: math.MaxInt},
		{Gates: math.MinInt, Open: math.MinInt, Step: math.MinInt, Crest: math.MinInt, Width: math.MinInt},
	}
	return slices.Concat(list,
		weirsWith(setGates, append(far, -1, 0, impl.MaxGates+1)...),
		weirsWith(setOpen, append(far, -1, 21)...),
		weirsWith(setStep, append(far, -1, 0, impl.MaxStep+1)...),
		weirsWith(setCrest, append(far, -1, impl.MaxLevel+1)...),
		weirsWith(setWidth, append(far, -1, 0, 1001)...),
	)
}

// naiveMove moves a gate by one tenth after the other.
func naiveMove(w impl.Weir, open int) impl.Weir {
	for range w.Step {
		if w.Open < open {
			w.Open++
		} else if w.Open > open {
			w.Open--
		}
	}
	return w
}

func randomWeir(rnd *rand.Rand) impl.Weir {
	gates := 1 + rnd.Intn(impl.MaxGates)
	return impl.Weir{
		Gates: gates, Open: rnd.Intn(10*gates + 1), Step: 1 + rnd.Intn(impl.MaxStep),
		Crest: rnd.Intn(60), Width: 1 + rnd.Intn(12),
	}
}

func TestLimitsOfChapter3(t *testing.T) {
	if impl.MaxGates != 8 || impl.MaxStep != 80 || impl.MaxLevel != 100000 {
		t.Errorf("the limits are %d, %d and %d", impl.MaxGates, impl.MaxStep, impl.MaxLevel)
	}
}

func TestWeirOk(t *testing.T) {
	for _, w := range validWeirs() {
		if !impl.WeirOk(w) {
			t.Errorf("WeirOk(%+v) is false", w)
		}
	}
	for _, w := range invalidWeirs() {
		if impl.WeirOk(w) {
			t.Errorf("WeirOk(%+v) is true", w)
		}
	}
}

func TestEachGateCanBeOpened(t *testing.T) {
	for gates := -2; gates <= impl.MaxGates+2; gates++ {
		for open := -20; open <= 10*impl.MaxGates+30; open++ {
			want := gates >= 1 && gates <= impl.MaxGates && open >= 0 && open <= 10*gates
			w := impl.Weir{Gates: gates, Open: open, Step: 3, Crest: 50, Width: 4}
			if impl.WeirOk(w) != want {
				t.Errorf("WeirOk(%+v) is %v", w, !want)
			}
		}
	}
}

func TestMoveGate(t *testing.T) {
	known := []struct{ open, step, to, want int }{
		{5, 3, 20, 8}, {5, 3, 4, 4}, {5, 3, 5, 5}, {5, 3, 8, 8}, {5, 3, 9, 8}, {5, 3, 7, 7}, {5, 3, 6, 6},
		{5, 3, 2, 2}, {5, 3, 1, 2}, {5, 3, 3, 3}, {5, 3, 0, 2}, {0, 3, 20, 3}, {20, 3, 0, 17}, {0, 3, 0, 0}, {20, 3, 20, 20},
		{5, 1, 20, 6}, {5, 1, 0, 4}, {5, impl.MaxStep, 20, 20}, {5, impl.MaxStep, 0, 0}, {5, impl.MaxStep, 6, 6},
		{5, 20, 20, 20}, {0, 20, 20, 20}, {0, 19, 20, 19}, {20, 19, 0, 1},
		// Beyond the gates, nothing is moved.
		{5, 3, 21, 5}, {5, 3, -1, 5}, {0, 3, -1, 0}, {20, 3, 21, 20}, {5, impl.MaxStep, 21, 5}, {5, impl.MaxStep, -1, 5},
		{5, 3, math.MaxInt, 5}, {5, 3, math.MinInt, 5}, {5, impl.MaxStep, math.MaxInt, 5}, {5, impl.MaxStep, math.MinInt, 5},
	}
	for _, k := range known {
		w := impl.Weir{Gates: 2, Open: k.open, Step: k.step, Crest: 50, Width: 4}
		if got := impl.MoveGate(w, k.to); got != opened(w, k.want) {
			t.Errorf("MoveGate(%+v, %d) = %+v", w, k.to, got)
		}
	}
}

func TestGatesMoveStepByStep(t *testing.T) {
	for gates := 1; gates <= impl.MaxGates; gates++ {
		for _, step := range []int{1, 2, 7, 10*gates - 1, 10 * gates, impl.MaxStep} {
			for open := 0; open <= 10*gates; open++ {
				for to := 0; to <= 10*gates; to++ {
					w := impl.Weir{Gates: gates, Open: open, Step: step, Crest: 50, Width: 4}
					if got := impl.MoveGate(w, to); got != naiveMove(w, to) {
						t.Fatalf("MoveGate(%+v, %d) = %+v", w, to, got)
					}
				}
				for _, to := range []int{-1, 10*gates + 1} {
					w := impl.Weir{Gates: gates, Open: open, Step: step, Crest: 50, Width: 4}
					if got := impl.MoveGate(w, to); got != w {
						t.Fatalf("MoveGate(%+v, %d) = %+v", w, to, got)
					}
				}
			}
		}
	}
}

func TestInvalidWeirsStayUnchanged(t *testing.T) {
	rule := impl.Rule{Low: 50, High: 70, Flood: 90}
	for _, w := range invalidWeirs() {
		for _, open := range append([]int{3, 10}, extremes...) {
			if got := impl.MoveGate(w, open); got != w {
				t.Errorf("MoveGate(%+v, %d) = %+v", w, open, got)
			}
		}
		for _, up := range []int{0, 60, 90, impl.MaxLevel} {
			if got := impl.SteerWeir(w, rule, up, 20, 10); got != w {
				t.Errorf("SteerWeir of %+v at %d = %+v", w, up, got)
			}
		}
	}
}

func validRules() []impl.Rule {
	return []impl.Rule{
		{Low: 50, High: 70, Flood: 90}, {Low: 0, High: 70, Flood: 90}, {Low: 69, High: 70, Flood: 90},
		{Low: 50, High: 90, Flood: 90}, {Low: 50, High: 70, Flood: impl.MaxLevel}, {Low: 0, High: 1, Flood: 1},
		{Low: 0, High: impl.MaxLevel, Flood: impl.MaxLevel}, {Low: 0, High: 1, Flood: impl.MaxLevel},
		{Low: impl.MaxLevel - 1, High: impl.MaxLevel, Flood: impl.MaxLevel},
	}
}

func invalidRules() []impl.Rule {
	return []impl.Rule{
		{}, {Low: 70, High: 70, Flood: 90}, {Low: 71, High: 70, Flood: 90}, {Low: 50, High: 91, Flood: 90},
		{Low: -1, High: 70, Flood: 90}, {Low: 50, High: 70, Flood: impl.MaxLevel + 1}, {Low: 0, High: 0, Flood: 0},
		{Low: 50, High: impl.MaxLevel + 1, Flood: impl.MaxLevel + 1}, {Low: 50, High: impl.MaxLevel + 1, Flood: impl.MaxLevel},
		{Low: impl.MaxLevel, High: impl.MaxLevel, Flood: impl.MaxLevel}, {Low: impl.MaxLevel, High: impl.MaxLevel + 1, Flood: impl.MaxLevel + 1},
		{Low: -2, High: -1, Flood: 90}, {Low: -2, High: -1, Flood: -1}, {Low: -1, High: 0, Flood: 0},
		{Low: 50, High: 70, Flood: 60}, {Low: 50, High: 70, Flood: 69}, {Low: 50, High: 70, Flood: 40}, {Low: 50, High: 70, Flood: -1},
		{Low: math.MinInt, High: 70, Flood: 90}, {Low: 50, High: math.MaxInt, Flood: math.MaxInt}, {Low: 50, High: 70, Flood: math.MaxInt},
		{Low: math.MinInt, High: math.MaxInt, Flood: math.MaxInt}, {Low: 50, High: math.MinInt, Flood: 90},
		{Low: 50, High: 70, Flood: math.MinInt}, {Low: math.MaxInt, High: math.MinInt, Flood: 90},
		{Low: math.MaxInt, High: math.MaxInt, Flood: math.MaxInt}, {Low: math.MinInt, High: math.MinInt, Flood: math.MinInt},
	}
}

func TestRuleOk(t *testing.T) {
	for _, r := range validRules() {
		if !impl.RuleOk(r) {
			t.Errorf("RuleOk(%+v) is false", r)
		}
	}
	for _, r := range invalidRules() {
		if impl.RuleOk(r) {
			t.Errorf("RuleOk(%+v) is true", r)
		}
	}
}

// naiveWanted is what the document says for valid arguments, word by word.
func naiveWanted(r impl.Rule, level int, inflow int) int {
	if level <= r.Low {
		return 0
	}
	flow := inflow * (level - r.Low) / (r.High - r.Low)
	if flow > 2*inflow {
		return 2 * inflow
	}
	return flow
}

func TestWantedFlow(t *testing.T) {
	known := []struct{ level, inflow, want int }{
		{50, 100, 0}, {49, 100, 0}, {0, 100, 0}, {51, 100, 5}, {60, 100, 50}, {69, 100, 95}, {70, 100, 100}, {71, 100, 105},
		{89, 100, 195}, {90, 100, 200}, {91, 100, 200}, {impl.MaxLevel, 100, 200},
		// What is not whole is rounded down.
		{51, 19, 0}, {51, 20, 1}, {51, 39, 1}, {51, 40, 2}, {57, 3, 1}, {89, 7, 13}, {89, 1, 1}, {90, 1, 2}, {91, 1, 2},
		{60, 0, 0}, {90, 0, 0}, {impl.MaxLevel, 0, 0}, {60, impl.MaxAmount, impl.MaxAmount / 2},
		{impl.MaxLevel, impl.MaxAmount, 2 * impl.MaxAmount}, {91, impl.MaxAmount, 2 * impl.MaxAmount},
		{89, impl.MaxAmount, 1950000000},
		{60, -1, 0}, {60, impl.MaxAmount + 1, 0}, {60, math.MinInt, 0}, {60, math.MaxInt, 0},
		{91, -1, 0}, {91, impl.MaxAmount + 1, 0}, {40, -100, 0},
		{-1, 100, 0}, {impl.MaxLevel + 1, 100, 0}, {math.MinInt, 100, 0}, {math.MaxInt, 100, 0},
	}
	for _, k := range known {
		if got := impl.WantedFlow(impl.Rule{Low: 50, High: 70, Flood: 80}, k.level, k.inflow); got != k.want {
			t.Errorf("WantedFlow at %d of %d = %d, not %d", k.level, k.inflow, got, k.want)
		}
	}
}

func TestWantedFlowOfManyRules(t *testing.T) {
	for _, r := range validRules() {
		levels := []int{0, 1, r.Low - 1, r.Low, r.Low + 1, r.High - 1, r.High, r.High + 1, 2*r.High - r.Low - 1, 2*r.High - r.Low, 2*r.High - r.Low + 1, r.Flood, impl.MaxLevel - 1, impl.MaxLevel}
		for _, level := range levels {
			for _, inflow := range []int{0, 1, 2, 7, 100, impl.MaxAmount - 1, impl.MaxAmount} {
				want := 0
				if level >= 0 && level <= impl.MaxLevel {
					want = naiveWanted(r, level, inflow)
				}
				if got := impl.WantedFlow(r, level, inflow); got != want {
					t.Errorf("WantedFlow(%+v, %d, %d) = %d, not %d", r, level, inflow, got, want)
				}
			}
		}
	}
	for _, r := range invalidRules() {
		for _, level := range append([]int{30, 60, 80, 95, impl.MaxLevel}, extremes...) {
			for _, inflow := range append([]int{100}, extremes...) {
				if got := impl.WantedFlow(r, level, inflow); got != 0 {
					t.Errorf("WantedFlow(%+v, %d, %d) = %d", r, level, inflow, got)
				}
			}
		}
	}
}

func TestSteerWeir(t *testing.T) {
	rule := impl.Rule{Low: 50, High: 70, Flood: 90}
	known := []struct{ open, step, up, down, inflow, want int }{
		// At the flood all gates are opened, whatever comes.
		{5, 3, 90, 20, 10, 8}, {5, 3, 90, 20, 0, 8}, {5, 80, 90, 20, 0, 20}, {5, 80, 91, 20, 0, 20}, {5, 80, 90, 100, 0, 20},
		{5, 80, impl.MaxLevel, impl.MaxLevel, 0, 20}, {20, 80, 90, 20, 0, 20}, {5, 80, impl.MaxLevel, 0, 0, 20},
		// Below it they are opened as far as wanted: with 66 above and the crest at 50, each tenth lets 8/5 through.
		{5, 80, 66, 20, 10, 5}, {5, 80, 66, 20, 40, 20}, {5, 80, 66, 20, 41, 20}, {5, 80, 66, 20, 0, 0}, {5, 80, 66, 20, 2, 1},
		{5, 3, 66, 20, 40, 8}, {5, 3, 66, 20, 0, 2}, {5, 3, 66, 20, 20, 8}, {9, 3, 66, 20, 20, 10},
		// Without a fall nothing flows, so that all gates shall be open as soon as something is wanted.
		{5, 80, 66, 66, 10, 20}, {5, 80, 66, 80, 10, 20}, {5, 80, 66, 66, 0, 0}, {5, 80, 66, 66, 1, 0}, {5, 80, 66, 66, 2, 20},
		{5, 80, 50, 20, 1000, 0}, {5, 80, 49, 20, 1000, 0}, {5, 80, 0, 0, 1000, 0}, {5, 80, 51, 20, impl.MaxAmount, 20},
		{5, 80, 89, 20, 0, 0}, {5, 80, 89, 20, 1, 1},
		// Nothing invalid moves a gate, not even at the flood.
		{5, 80, 66, 20, -1, 5}, {5, 80, 66, 20, impl.MaxAmount + 1, 5}, {5, 80, 90, 20, -1, 5}, {5, 80, 90, 20, impl.MaxAmount + 1, 5},
		{5, 80, 90, 20, math.MinInt, 5}, {5, 80, 90, 20, math.MaxInt, 5}, {5, 80, 90, 20, impl.MaxAmount, 20},
		{5, 80, -1, 20, 10, 5}, {5, 80, impl.MaxLevel + 1, 20, 10, 5}, {5, 80, math.MinInt, 20, 10, 5}, {5, 80, math.MaxInt, 20, 10, 5},
		{5, 80, 90, -1, 10, 5}, {5, 80, 90, impl.MaxLevel + 1, 10, 5}, {5, 80, 90, math.MinInt, 10, 5}, {5, 80, 90, math.MaxInt, 10, 5},
		{5, 80, 66, -1, 0, 5}, {5, 80, 66, impl.MaxLevel + 1, 0, 5},
	}
	for _, k := range known {
		w := impl.Weir{Gates: 2, Open: k.open, Step: k.step, Crest: 50, Width: 4}
		if got := impl.SteerWeir(w, rule, k.up, k.down, k.inflow); got != opened(w, k.want) {
			t.Errorf("SteerWeir(%+v) at %d and %d with %d = %+v", w, k.up, k.down, k.inflow, got)
		}
	}
}

func TestSteerWeirOfManyWeirs(t *testing.T) {
	rnd := rand.New(rand.NewSource(31))
	for range 20000 {
		w, r := randomWeir(rnd), impl.Rule{Low: rnd.Intn(40)}
		r.High = r.Low + 1 + rnd.Intn(30)
		r.Flood = r.High + rnd.Intn(20)
		up, down, inflow := rnd.Intn(100), rnd.Intn(100), rnd.Intn(500)
		open := 10 * w.Gates
		if up < r.Flood {
			open = naiveOpenFor(w, up, down, naiveWanted(r, up, inflow))
		}
		if got := impl.SteerWeir(w, r, up, down, inflow); got != naiveMove(w, open) {
			t.Fatalf("SteerWeir(%+v, %+v, %d, %d, %d) = %+v", w, r, up, down, inflow, got)
		}
	}
}

func TestInvalidRulesSteerNothing(t *testing.T) {
	for _, r := range invalidRules() {
		for _, up := range append([]int{30, 60, 80, 95, impl.MaxLevel}, extremes...) {
			w := plainWeir()
			if got := impl.SteerWeir(w, r, up, 20, 10); got != w {
				t.Errorf("SteerWeir by %+v at %d = %+v", r, up, got)
			}
		}
	}
}
