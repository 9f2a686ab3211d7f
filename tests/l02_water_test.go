package tests

import (
	"math"
	"math/rand"
	"testing"

	"loop.example/g03317/impl"
)

func TestSendTo(t *testing.T) {
	known := []struct {
		r      impl.Reach
		amount int
		want   impl.Reach
	}{
		{water(50), 30, water(80)},
		{water(50, 4), 30, water(50, 34)},
		{water(50, 0, 0), 30, water(50, 0, 30)},
		{water(50, 1, 2, 3), 30, water(50, 1, 2, 33)},
		{water(50, 1, 2), 0, water(50, 1, 2)},
		{water(50), 0, water(50)},
		{water(50), impl.MaxAmount - 50, water(impl.MaxAmount)},
		{water(50), impl.MaxAmount - 49, water(50)},
		{water(50, 1, 2), impl.MaxAmount - 53, water(50, 1, impl.MaxAmount-51)},
		{water(50, 1, 2), impl.MaxAmount - 52, water(50, 1, 2)},
		{water(0), impl.MaxAmount, water(impl.MaxAmount)},
		{water(0), impl.MaxAmount + 1, water(0)},
		{water(impl.MaxAmount), 0, water(impl.MaxAmount)},
		{water(impl.MaxAmount, 0), 1, water(impl.MaxAmount, 0)},
		{water(50), -1, water(50)},
		{water(50, 7), -1, water(50, 7)},
		{water(50, 7), math.MinInt, water(50, 7)},
		{water(50, 7), math.MaxInt, water(50, 7)},
	}
	for _, k := range known {
		if got := impl.SendTo(k.r, k.amount); !sameReach(got, k.want) {
			t.Errorf("SendTo(%v, %d) = %v", k.r, k.amount, got)
		}
	}
}

func TestTakeOff(t *testing.T) {
	known := []struct{ volume, amount, keep, taken int }{
		{80, 100, 20, 60}, {80, 60, 20, 60}, {80, 61, 20, 60}, {80, 59, 20, 59}, {80, 5, 20, 5}, {80, 0, 20, 0},
		{80, 80, 0, 80}, {80, 81, 0, 80}, {80, 79, 0, 79}, {80, 10, 79, 1}, {80, 10, 80, 0}, {80, 10, 81, 0},
		{80, 10, 1000, 0}, {0, 10, 0, 0}, {0, 0, 0, 0}, {0, 10, 1, 0}, {80, -1, 0, 0}, {80, 10, -1, 0}, {80, -1, -1, 0},
		{80, math.MaxInt, 0, 80}, {80, math.MaxInt, 20, 60}, {80, 10, math.MaxInt, 0}, {80, math.MaxInt, math.MaxInt, 0},
		{80, math.MinInt, 0, 0}, {80, 10, math.MinInt, 0}, {80, math.MinInt, math.MinInt, 0},
		{80, math.MaxInt, math.MinInt, 0}, {0, 1, math.MaxInt, 0},
		{impl.MaxAmount - 9, impl.MaxAmount, 0, impl.MaxAmount - 9},
		{impl.MaxAmount - 9, impl.MaxAmount, impl.MaxAmount - 9, 0},
	}
	for _, k := range known {
		// What is on its way cannot be taken.
		got, taken := impl.TakeOff(water(k.volume, 4, 5), k.amount, k.keep)
		if !sameReach(got, water(k.volume-k.taken, 4, 5)) || taken != k.taken {
			t.Errorf("TakeOff %d of %d, keeping %d = %v, %d", k.amount, k.volume, k.keep, got, taken)
		}
	}
}

func TestPassOn(t *testing.T) {
	known := []struct {
		from, to     impl.Reach
		amount, keep int
		taken        int
		after        impl.Reach
	}{
		{water(50, 0, 0), water(50, 0, 0), 40, 30, 20, water(50, 0, 20)},
		{water(80, 9), water(10), 30, 0, 30, water(40)},
		{water(80, 9), water(10, 1, 2), 30, 0, 30, water(10, 1, 32)},
		{water(80, 9), water(10, 1, 2), 81, 0, 80, water(10, 1, 82)},
		{water(80, 9), water(10, 1, 2), 0, 0, 0, water(10, 1, 2)},
		{water(80, 9), water(10), 30, 80, 0, water(10)},
		{water(80, 9), water(10), 30, 81, 0, water(10)},
		{water(80, 9), water(10), 30, 79, 1, water(11)},
		{water(80, 9), water(impl.MaxAmount-5, 2), 30, 0, 3, water(impl.MaxAmount-5, 5)},
		{water(80, 9), water(impl.MaxAmount-5, 2), 3, 0, 3, water(impl.MaxAmount-5, 5)},
		{water(80, 9), water(impl.MaxAmount-5, 2), 2, 0, 2, water(impl.MaxAmount-5, 4)},
		{water(80, 9), water(impl.MaxAmount-5, 2), 30, 78, 2, water(impl.MaxAmount-5, 4)},
		{water(80, 9), water(impl.MaxAmount), 30, 0, 0, water(impl.MaxAmount)},
		{water(impl.MaxAmount), water(0, 0), impl.MaxAmount, 0, impl.MaxAmount, water(0, impl.MaxAmount)},
		{water(80, 9), water(10), math.MaxInt, 0, 80, water(90)},
		{water(80, 9), water(10), 30, math.MaxInt, 0, water(10)},
		{water(80, 9), water(10), -1, 0, 0, water(10)},
		{water(80, 9), water(10), 30, -1, 0, water(10)},
		{water(80, 9), water(10), math.MinInt, 0, 0, water(10)},
		{water(80, 9), water(10), 30, math.MinInt, 0, water(10)},
	}
	for _, k := range known {
		from, to, taken := impl.PassOn(k.from, k.to, k.amount, k.keep)
		before := water(k.from.Volume-k.taken, k.from.Pipe...)
		if !sameReach(from, before) || !sameReach(to, k.after) || taken != k.taken {
			t.Errorf("PassOn(%v, %v, %d, %d) = %v, %v, %d", k.from, k.to, k.amount, k.keep, from, to, taken)
		}
	}
}

func TestFlowIn(t *testing.T) {
	known := []struct{ r, want impl.Reach }{
		{water(50), water(50)},
		{water(50, 0), water(50, 0)},
		{water(50, 7), water(57, 0)},
		{water(50, 0, 7), water(50, 7, 0)},
		{water(50, 1, 2, 3), water(51, 2, 3, 0)},
		{water(0, impl.MaxAmount), water(impl.MaxAmount, 0)},
		{water(impl.MaxAmount-3, 1, 2), water(impl.MaxAmount-2, 2, 0)},
		{water(7, repeated(3, impl.MaxDelay)...), water(10, append(repeated(3, impl.MaxDelay-1), 0)...)},
	}
	for _, k := range known {
		if got := impl.FlowIn(k.r); !sameReach(got, k.want) {
			t.Errorf("FlowIn(%v) = %v", k.r, got)
		}
	}
}

func TestInvalidReachesStayUnchanged(t *testing.T) {
	good := water(80, 9)
	for _, r := range invalidReaches() {
		if got := impl.FlowIn(r); !sameReach(got, r) {
			t.Errorf("FlowIn(%.120v) = %.120v", r, got)
		}
		for _, amount := range append([]int{10}, extremes...) {
			if got := impl.SendTo(r, amount); !sameReach(got, r) {
				t.Errorf("SendTo(%.120v, %d) = %.120v", r, amount, got)
			}
			if got, taken := impl.TakeOff(r, amount, 3); !sameReach(got, r) || taken != 0 {
				t.Errorf("TakeOff(%.120v, %d, 3) = %.120v, %d", r, amount, got, taken)
			}
			if from, to, taken := impl.PassOn(r, good, amount, 3); !sameReach(from, r) || !sameReach(to, good) || taken != 0 {
				t.Errorf("PassOn of %d from %.120v = %.120v, %v, %d", amount, r, from, to, taken)
			}
			if from, to, taken := impl.PassOn(good, r, amount, 3); !sameReach(from, good) || !sameReach(to, r) || taken != 0 {
				t.Errorf("PassOn of %d to %.120v = %v, %.120v, %d", amount, r, from, to, taken)
			}
			if from, to, taken := impl.PassOn(r, r, amount, 3); !sameReach(from, r) || !sameReach(to, r) || taken != 0 {
				t.Errorf("PassOn of %d from and to %.120v = %.120v, %.120v, %d", amount, r, from, to, taken)
			}
		}
	}
}

// The numbers of these are compared as exact numbers, whatever they are.
func TestOperationsOnExtremes(t *testing.T) {
	for _, r := range validReaches() {
		for _, amount := range extremes {
			sent := amount
			if amount < 0 || amount > impl.SpaceIn(r) {
				sent = 0
			}
			if got := impl.SendTo(r, amount); !impl.ReachOk(got) || impl.TotalOf(got) != impl.TotalOf(r)+sent {
				t.Errorf("SendTo(%v, %d) = %v", r, amount, got)
			}
			for _, keep := range extremes {
				want := 0
				if amount >= 0 && keep >= 0 && keep < r.Volume {
					want = min(amount, r.Volume-keep)
				}
				got, taken := impl.TakeOff(r, amount, keep)
				if taken != want || got.Volume != r.Volume-want || impl.TotalOf(got) != impl.TotalOf(r)-want {
					t.Errorf("TakeOff(%v, %d, %d) = %v, %d", r, amount, keep, got, taken)
				}
			}
		}
	}
}

func TestSentWaterArrives(t *testing.T) {
	for delay := range impl.MaxDelay + 1 {
		r, _ := impl.NewReach(slope(), 5, delay)
		r = impl.SendTo(r, 30)
		for flows := range delay {
			if r.Volume != 50 || impl.TotalOf(r) != 80 {
				t.Errorf("with the delay %d and %d flows: %v", delay, flows, r)
			}
			r = impl.FlowIn(r)
		}
		for range 3 {
			if want := water(80, repeated(0, delay)...); !sameReach(r, want) {
				t.Errorf("with the delay %d: %v", delay, r)
			}
			r = impl.FlowIn(r)
		}
	}
}

func TestEachAmountArrivesAtItsTime(t *testing.T) {
	rnd := rand.New(rand.NewSource(22))
	for delay := range impl.MaxDelay + 1 {
		r, _ := impl.NewReach(slope(), 5, delay)
		const steps = 100
		arriving := make([]int, steps+impl.MaxDelay)
		volume := r.Volume
		for step := range steps {
			for range rnd.Intn(3) {
				amount := rnd.Intn(1000)
				r = impl.SendTo(r, amount)
				arriving[step+max(delay, 1)-1] += amount
			}
			r = impl.FlowIn(r)
			volume += arriving[step]
			if r.Volume != volume || len(r.Pipe) != delay {
				t.Fatalf("with the delay %d, in step %d: %v, not %d", delay, step, r, volume)
			}
		}
	}
}

func TestNoWaterIsLost(t *testing.T) {
	rnd := rand.New(rand.NewSource(23))
	amounts := append([]int{10, 500}, extremes...)
	for range 300 {
		list := make([]impl.Reach, 2+rnd.Intn(impl.MaxReaches-1))
		for k := range list {
			list[k], _ = impl.NewReach(slope(), rnd.Intn(12), rnd.Intn(impl.MaxDelay+1))
		}
		total := impl.RiverTotal(list)
		for range 100 {
			k, amount, keep := rnd.Intn(len(list)), amounts[rnd.Intn(len(amounts))], rnd.Intn(60)-5
			switch below := (k + 1) % len(list); rnd.Intn(4) {
			case 0:
				// No more comes than the river can have.
				if amount >= 0 && amount <= impl.MaxAmount-total {
					list[k] = impl.SendTo(list[k], amount)
					total += amount
				}
			case 1:
				taken := 0
				list[k], taken = impl.TakeOff(list[k], amount, keep)
				total -= taken
			case 2:
				list[k], list[below], _ = impl.PassOn(list[k], list[below], amount, keep)
			default:
				list[k] = impl.FlowIn(list[k])
			}
			if !impl.RiverOk(list) || impl.RiverTotal(list) != total {
				t.Fatalf("the river %v has %d, not %d", list, impl.RiverTotal(list), total)
			}
		}
	}
}

func TestAllThatIsOnItsWayFlowsIn(t *testing.T) {
	for _, r := range validReaches() {
		total := impl.TotalOf(r)
		flown := r
		for range r.Pipe {
			flown = impl.FlowIn(flown)
		}
		if want := (impl.Reach{Table: r.Table, Volume: total, Pipe: repeated(0, len(r.Pipe))}); !sameReach(flown, want) {
			t.Errorf("%v has become %v", r, flown)
		}
	}
}
