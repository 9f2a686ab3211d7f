package tests

import (
	"math"
	"math/rand"
	"testing"

	"loop.example/g03317/impl"
)

func TestPourWater(t *testing.T) {
	for inflow, k := range map[int]struct {
		first impl.Reach
		in    int
	}{
		0: {lake(750), 40}, 1: {lake(751), 41}, 500: {lake(1250), 540},
		impl.MaxAmount - 1540: {lake(impl.MaxAmount - 790), impl.MaxAmount - 1500},
		// These are more than what may come, but the time goes on.
		impl.MaxAmount - 1539: {lake(750), 40}, impl.MaxAmount: {lake(750), 40}, impl.MaxAmount + 1: {lake(750), 40}, math.MaxInt: {lake(750), 40},
	} {
		want := plainWith(func(x *impl.Waterway) {
			x.Time, x.In = 11, k.in
			x.Reaches = []impl.Reach{k.first, lake(503, 0), lake(201, 2, 0)}
		})
		if got := impl.PourWater(plainWaterway(), inflow); !alike(got, want) {
			t.Errorf("PourWater(%d): %s", inflow, differing(got, want))
		}
	}
}

// TestPourWaterIntoPipes has water on its way into the first reach.
func TestPourWaterIntoPipes(t *testing.T) {
	for _, k := range []struct{ before, after impl.Reach }{
		{lake(750, 4), lake(784, 0)},
		{lake(750, 4, 5), lake(754, 35, 0)},
		{lake(750, 4, 5, 6), lake(754, 5, 36, 0)},
	} {
		got := impl.PourWater(plainWith(func(x *impl.Waterway) { x.Reaches[0] = k.before }), 30)
		if !sameReach(got.Reaches[0], k.after) || got.In != 70 || got.Time != 11 {
			t.Errorf("%v has become %v with 30 more, In is %d", k.before, got.Reaches[0], got.In)
		}
	}
}

// TestWaterThatIsNotSent is added to In where the reach has no space for it.
func TestWaterThatIsNotSent(t *testing.T) {
	x := plainWith(func(x *impl.Waterway) { x.Reaches[0] = lake(impl.MaxAmount-706-5, 5) })
	got := impl.PourWater(x, 707)
	if !sameReach(got.Reaches[0], lake(impl.MaxAmount-706, 0)) || got.In != 747 || !impl.WaterwayOk(got) {
		t.Errorf("707 without space: %s", differing(got, x))
	}
	// One less has space, but then all reaches together have too much.
	got = impl.PourWater(x, 706)
	if !sameReach(got.Reaches[0], lake(impl.MaxAmount, 0)) || got.In != 746 || impl.WaterwayOk(got) {
		t.Errorf("706 with space: %s", differing(got, x))
	}
	if again := impl.PourWater(got, 0); !alike(again, got) {
		t.Errorf("PourWater changes what is not valid: %s", differing(again, got))
	}
	// As much as fits is valid.
	x.Reaches[0].Volume -= 10
	if got = impl.PourWater(x, 10); !impl.WaterwayOk(got) || impl.RiverTotal(got.Reaches) != impl.MaxAmount {
		t.Errorf("10 with space: %s", differing(got, x))
	}
}

func TestPourWaterAtTheLimits(t *testing.T) {
	for _, k := range []struct{ start, in, inflow, after int }{
		{impl.MaxAmount, 0, 0, 0}, {impl.MaxAmount, 0, 1, 0}, {0, impl.MaxAmount, 0, impl.MaxAmount}, {0, impl.MaxAmount, 1, impl.MaxAmount},
		{impl.MaxAmount, impl.MaxAmount, 0, impl.MaxAmount}, {impl.MaxAmount, impl.MaxAmount, math.MaxInt, impl.MaxAmount},
		{impl.MaxAmount - 5, 3, 2, 5}, {impl.MaxAmount - 5, 3, 3, 3}, {0, 0, 9, 9}, {impl.MaxAmount - 9, 0, 9, 9}, {impl.MaxAmount - 9, 0, 10, 0},
	} {
		x := plainWith(func(x *impl.Waterway) { x.Start, x.In = k.start, k.in })
		got := impl.PourWater(x, k.inflow)
		if got.In != k.after || got.Reaches[0].Volume != 750+k.after-k.in || got.Time != 11 {
			t.Errorf("with %d and %d, %d more is %d: %s", k.start, k.in, k.inflow, got.In, differing(got, x))
		}
	}
	for time, want := range map[int]int{0: 1, impl.MaxTime - 1: impl.MaxTime, impl.MaxTime: impl.MaxTime} {
		x := plainWith(func(x *impl.Waterway) { x.Time = time })
		got := impl.PourWater(x, 5)
		if got.Time != want || (want == time) != alike(got, x) {
			t.Errorf("after %d comes %d: %s", time, got.Time, differing(got, x))
		}
	}
}

func TestPourWaterRejects(t *testing.T) {
	for _, inflow := range []int{-1, -2, -impl.MaxAmount, math.MinInt + 1, math.MinInt} {
		if got := impl.PourWater(plainWaterway(), inflow); !alike(got, plainWaterway()) {
			t.Errorf("PourWater(%d): %s", inflow, differing(got, plainWaterway()))
		}
	}
	for _, x := range invalidWaterways() {
		for _, inflow := range []int{-1, 0, 5} {
			if got := impl.PourWater(x, inflow); !alike(got, x) {
				t.Errorf("PourWater(%d): %s", inflow, differing(got, x))
			}
		}
	}
}

func TestSteerWeirs(t *testing.T) {
	// With the level 75, 60*15/20 is wanted, for which 10 tenths are not enough at 4 a gate; Open
	// changes by 3 to 8, and 8*4*2/10 flows. Then the level is 50 still; of 60, 30 is wanted, and
	// Open is 6, with which 6*3*2/10 flows; this much again leaves the last reach at its end.
	want := plainWith(func(x *impl.Waterway) {
		x.Works[0].Weir.Open, x.Works[1].Weir.Open = 8, 6
		x.Reaches = []impl.Reach{lake(744), lake(497, 9), lake(200, 1, 5)}
	})
	got := impl.SteerWeirs(plainWaterway(), 60)
	if !alike(got, want) {
		t.Errorf("SteerWeirs: %s", differing(got, want))
	}
}

// draining returns a waterway whose last weir has its crest below the last level.
func draining(level int, bed int, open int) impl.Waterway {
	return plainWith(func(x *impl.Waterway) {
		x.Reaches[2], x.Ways[2].Bed = lake(10*level, 6), bed
		x.Works[1].Weir = impl.Weir{Gates: 1, Open: open, Step: 1, Crest: 11, Width: 10}
		// Nothing is wanted from the reach above, so that the gates close.
		x.Works[1].Rule = impl.Rule{Low: 90, High: 95, Flood: 100}
		x.Works[0].Weir.Crest = 100
	})
}

func TestWaterThatLeaves(t *testing.T) {
	for _, k := range []struct{ level, bed, open, taken int }{
		// From 10 tenths, 9 stay open; the height above the crest counts, and not the reach above.
		{20, 5, 10, 27}, {20, 5, 6, 15}, {20, 5, 2, 3}, {20, 5, 1, 0}, {20, 5, 0, 0}, {12, 5, 10, 9}, {11, 5, 10, 0}, {10, 5, 10, 0},
		// What is below the bed is kept.
		{20, 18, 10, 20}, {20, 19, 10, 10}, {20, 20, 10, 0}, {20, 21, 10, 0}, {20, 100000, 10, 0}, {20, 17, 10, 27}, {20, 0, 10, 27},
	} {
		x := draining(k.level, k.bed, k.open)
		got := impl.SteerWeirs(x, 0)
		// What comes from above is on its way.
		passed := got.Reaches[2].Pipe[0] - 6
		if got.Reaches[2].Volume != 10*k.level-k.taken || got.Out != 24+k.taken || got.Reaches[1].Volume != 500-passed {
			t.Errorf("from the level %d above the bed %d with %d tenths, %d leaves: %s", k.level, k.bed, k.open, got.Out-24, differing(got, x))
		}
	}
}

func TestOutAtTheLimit(t *testing.T) {
	for _, more := range []int{-1, 0, 1} {
		x := draining(20, 5, 10)
		x.Out = impl.MaxAmount - 27 + more
		got := impl.SteerWeirs(x, 0)
		if got.Out != impl.MaxAmount+more || got.Reaches[2].Volume != 173 || impl.WaterwayOk(got) != (more <= 0) {
			t.Errorf("Out has become %d: %s", got.Out, differing(got, x))
		}
	}
}

func TestSteerWeirsRejects(t *testing.T) {
	for _, inflow := range []int{-1, -2, math.MinInt, impl.MaxAmount + 1, math.MaxInt} {
		if got := impl.SteerWeirs(plainWaterway(), inflow); !alike(got, plainWaterway()) {
			t.Errorf("SteerWeirs(%d): %s", inflow, differing(got, plainWaterway()))
		}
	}
	for _, inflow := range []int{0, 1, impl.MaxAmount - 1, impl.MaxAmount} {
		if got := impl.SteerWeirs(plainWaterway(), inflow); alike(got, plainWaterway()) || !alike(got, naiveSteer(plainWaterway(), inflow)) {
			t.Errorf("SteerWeirs(%d): %s", inflow, differing(got, plainWaterway()))
		}
	}
	for _, x := range invalidWaterways() {
		for _, inflow := range []int{-1, 0, 60} {
			if got := impl.SteerWeirs(x, inflow); !alike(got, x) {
				t.Errorf("SteerWeirs(%d): %s", inflow, differing(got, x))
			}
		}
	}
}

// TestManyWaters compares what is poured and steered with the text of the chapter.
func TestManyWaters(t *testing.T) {
	rnd := rand.New(rand.NewSource(92))
	left, spoilt := 0, 0
	for range 800 {
		x := randomWaterway(rnd)
		if rnd.Intn(3) == 0 {
			x = crowded(rnd, x)
		}
		inflow := []int{-1, 0, 1, 7, 50, 300, impl.MaxAmount - x.Start - x.In, impl.MaxAmount - x.Start - x.In + 1, impl.MaxAmount, impl.MaxAmount + 1}[rnd.Intn(10)]
		got, want := impl.PourWater(x, inflow), naivePour(x, inflow)
		if !alike(got, want) {
			t.Fatalf("PourWater(%d): %s", inflow, differing(got, want))
		}
		steered := impl.SteerWeirs(got, inflow)
		if want = naiveSteer(got, inflow); !alike(steered, want) {
			t.Fatalf("SteerWeirs(%d): %s", inflow, differing(steered, want))
		}
		if steered.Out > got.Out {
			left++
		}
		if impl.WaterwayOk(x) && (!impl.WaterwayOk(got) || !impl.WaterwayOk(steered)) {
			spoilt++
		}
	}
	if left < 20 || spoilt < 10 {
		t.Errorf("water has left %d times, and %d are not valid any more", left, spoilt)
	}
}
