package tests

import (
	"math/rand"
	"reflect"
	"testing"

	"loop.example/g03317/impl"
)

// scramble puts any numbers and lengths into some places of a value, of which few are valid.
func scramble(rnd *rand.Rand, v reflect.Value, seldom int) {
	switch v.Kind() {
	case reflect.Struct:
		for i := range v.NumField() {
			scramble(rnd, v.Field(i), seldom)
		}
	case reflect.Slice:
		switch hit := rnd.Intn(4 * seldom); {
		case hit == 0:
			v.Set(reflect.Append(v, reflect.New(v.Type().Elem()).Elem()))
		case hit == 1 && v.Len() > 0:
			v.Set(v.Slice(0, v.Len()-1))
		case hit == 2 && v.Len() > 0:
			v.Set(reflect.Append(v, v.Index(0)))
		}
		for i := range v.Len() {
			scramble(rnd, v.Index(i), seldom)
		}
	case reflect.Bool:
		if rnd.Intn(seldom) == 0 {
			v.SetBool(!v.Bool())
		}
	case reflect.Int:
		switch rnd.Intn(4 * seldom) {
		case 0:
			v.SetInt(int64(extremes[rnd.Intn(len(extremes))]))
		case 1:
			v.SetInt(v.Int() + 1)
		case 2:
			v.SetInt(v.Int() - 1)
		}
	}
}

func scrambled[T any](rnd *rand.Rand, x T, seldom int) T {
	y := copied(x)
	scramble(rnd, reflect.ValueOf(&y).Elem(), seldom)
	// The same memory may be at two places by then.
	return copied(y)
}

// TestAnyWaterway compares all functions with the text of the chapter, for waterways in which any number may be any other.
func TestAnyWaterway(t *testing.T) {
	t.Parallel()
	rnd := rand.New(rand.NewSource(99))
	results := map[bool]int{}
	for i := range 2500 {
		x := scrambled(rnd, randomWaterway(rnd), []int{1, 5, 100, 1000, 3000}[i%5])
		train := scrambled(rnd, barge(rnd, 1+rnd.Intn(100)), 10)
		inflow, k, n := extremes[rnd.Intn(len(extremes))], rnd.Intn(6)-1, extremes[rnd.Intn(len(extremes))]
		if rnd.Intn(2) == 0 {
			inflow = rnd.Intn(100)
		}
		results[naiveOk(x)]++
		checkWaterway(t, x, train, inflow, k, n)
	}
	if results[true] < 400 || results[false] < 400 {
		t.Errorf("%v are valid", results)
	}
}

func checkWaterway(t *testing.T, x impl.Waterway, train impl.Train, inflow int, k int, n int) {
	t.Helper()
	check := func(name string, got impl.Waterway, want impl.Waterway) {
		t.Helper()
		if !alike(got, want) {
			t.Fatalf("%s: %s", name, differing(got, want))
		}
	}
	check("PourWater", impl.PourWater(x, inflow), naivePour(x, inflow))
	check("SteerWeirs", impl.SteerWeirs(x, inflow), naiveSteer(x, inflow))
	check("SailAll", impl.SailAll(x), naiveSail(x))
	check("WorkLock", impl.WorkLock(x, k), naiveWork(x, k))
	check("WorkLock of any", impl.WorkLock(x, n), naiveWork(x, n))
	check("StepWaterway", impl.StepWaterway(x, inflow), naiveStep(x, inflow))
	check("RunWaterway", impl.RunWaterway(x, inflow, 3), naiveRun(x, inflow, 3))
	if n < 0 || n > 2000 {
		check("RunWaterway of any", impl.RunWaterway(x, inflow, n), x)
	}
	came, ok := impl.EnterTrain(x, train)
	want, comes := naiveCome(x, train)
	check("EnterTrain", came, want)
	if ok != comes || !alike(impl.AbleCalls(x, k), naiveAble(x, k)) || len(impl.AbleCalls(x, n)) > 0 && !alike(impl.AbleCalls(x, n), naiveAble(x, n)) {
		t.Fatalf("EnterTrain = %v, AbleCalls = %v", ok, impl.AbleCalls(x, k))
	}
	checkLedger(t, x)
}

func checkLedger(t *testing.T, x impl.Waterway) {
	t.Helper()
	for _, w := range x.Works {
		if impl.WorkOk(w) != naiveWorkOk(w) {
			t.Fatalf("WorkOk = %v: %+v", impl.WorkOk(w), w)
		}
	}
	valid, water := naiveOk(x), 0
	if valid {
		water = naiveWater(x)
	}
	if impl.WaterwayOk(x) != valid || impl.WaterOf(x) != water || impl.WaterKept(x) != (valid && water+x.Out == x.Start+x.In) {
		t.Fatalf("WaterwayOk = %v, WaterOf = %d, WaterKept = %v: %s", impl.WaterwayOk(x), impl.WaterOf(x), impl.WaterKept(x), briefly(x))
	}
	if !alike(impl.PlacesOf(x), naivePlaces(x)) || impl.BoatsOnce(x) != naiveOnce(x) || impl.TollsTrue(x) != naiveTolls(x) || impl.LedgerOk(x) != naiveLedger(x) {
		t.Fatalf("PlacesOf = %v, BoatsOnce = %v, TollsTrue = %v, LedgerOk = %v: %s", impl.PlacesOf(x), impl.BoatsOnce(x), impl.TollsTrue(x), impl.LedgerOk(x), briefly(x))
	}
	// The parts begin a waterway just if they are valid, and no train is there.
	begins := copied(x)
	begins.Time, begins.In, begins.Out = 0, 0, 0
	begins.Movers, begins.Arrived, begins.Entered, begins.Book, begins.Passings = make([][]impl.Mover, len(x.Reaches)), nil, nil, nil, nil
	begins.Start = naiveWater(x)
	ok := naiveOk(begins)
	for _, w := range x.Works {
		ok = ok && len(w.Calls) == 0 && len(w.Lock.Inside) == 0
	}
	if !ok {
		begins = impl.Waterway{}
	}
	if got, is := impl.NewWaterway(x.Reaches, x.Ways, x.Works, x.Tariff); is != ok || !alike(got, begins) {
		t.Fatalf("NewWaterway = %v: %s", is, differing(got, begins))
	}
}
