package tests

import (
	"fmt"
	"math"
	"math/rand"
	"slices"
	"testing"

	"loop.example/g03317/impl"
)

// plainTariff has no number at a limit.
func plainTariff() impl.Tariff {
	return impl.Tariff{Base: 10, PerArea: 3, PerClass: []int{7, 5, 2}, Weights: []int{1, 2}}
}

// farNumbers are in no range of chapter 8; the last two are 1 and 2, if they are taken modulo 2^32.
func farNumbers() []int {
	return []int{math.MinInt, math.MinInt + 1, -impl.MaxAmount, -1, math.MaxInt - 1, math.MaxInt, 1<<32 + 1, 1<<32 + 2}
}

// variants returns what is plain, but with each of the numbers at the place that set writes to.
func variants[T any](plain func() T, set func(x *T, n int), numbers ...int) []T {
	var list []T
	for _, n := range numbers {
		x := plain()
		set(&x, n)
		list = append(list, x)
	}
	return list
}

func setBaseToll(f *impl.Tariff, n int) { f.Base = n }
func setPerArea(f *impl.Tariff, n int)  { f.PerArea = n }
func setForClass(class int) func(f *impl.Tariff, n int) {
	return func(f *impl.Tariff, n int) { f.PerClass[class] = n }
}
func setWeight(owner int) func(f *impl.Tariff, n int) {
	return func(f *impl.Tariff, n int) { f.Weights[owner] = n }
}

func weighted(weights ...int) impl.Tariff {
	f := plainTariff()
	f.Weights = weights
	return f
}

func forClasses(tolls ...int) impl.Tariff {
	f := plainTariff()
	f.PerClass = tolls
	return f
}

// onlyOne returns weights of which one alone is not 0.
func onlyOne(count int, owner int, weight int) []int {
	weights := make([]int, count)
	weights[owner] = weight
	return weights
}

func validTariffs() []impl.Tariff {
	list := slices.Concat(
		variants(plainTariff, setBaseToll, 0, 1, 9999, 10000),
		variants(plainTariff, setPerArea, 0, 1, 99, 100),
		[]impl.Tariff{
			plainTariff(), weighted(1), weighted(1000), forClasses(0, 0, 0), forClasses(10000, 10000, 10000),
			{PerClass: []int{0, 0, 0}, Weights: []int{1}},
			{Base: 10000, PerArea: 100, PerClass: repeated(10000, 3), Weights: repeated(1000, impl.MaxAccounts-1)},
		},
	)
	for class := range 3 {
		list = append(list, variants(plainTariff, setForClass(class), 0, 1, 9999, 10000)...)
	}
	for owner := range 2 {
		list = append(list, variants(plainTariff, setWeight(owner), 0, 1, 999, 1000)...)
	}
	for count := 1; count < impl.MaxAccounts; count++ {
		list = append(list, weighted(repeated(7, count)...), weighted(onlyOne(count, 0, 1)...), weighted(onlyOne(count, count-1, 1000)...))
	}
	return list
}

func invalidTariffs() []impl.Tariff {
	list := slices.Concat(
		variants(plainTariff, setBaseToll, append(farNumbers(), 10001)...),
		variants(plainTariff, setPerArea, append(farNumbers(), 101)...),
		[]impl.Tariff{
			{}, {PerClass: []int{0, 0, 0}}, {Weights: []int{1}},
			// More or fewer classes.
			forClasses(), forClasses([]int{}...), forClasses(1), forClasses(1, 2), forClasses(1, 2, 3, 4), forClasses(repeated(1, 100000)...),
			// No weight but 0, and none at all.
			weighted(), weighted([]int{}...), weighted(0), weighted(0, 0), weighted(repeated(0, impl.MaxAccounts-1)...),
			// More weights than owners.
			weighted(repeated(1, impl.MaxAccounts)...), weighted(repeated(0, impl.MaxAccounts)...), weighted(onlyOne(impl.MaxAccounts, 0, 5)...),
			weighted(repeated(1, impl.MaxAccounts+1)...), weighted(repeated(1, 100000)...),
			// Weights whose sum would do.
			weighted(5, -1), weighted(-1, 5), weighted(-5, 5), weighted(math.MaxInt, math.MaxInt, 3), weighted(math.MinInt, math.MinInt, 1),
			weighted(1001, 0), weighted(1, 1, 1001), weighted(1000000),
		},
	)
	for class := range 3 {
		list = append(list, variants(plainTariff, setForClass(class), append(farNumbers(), 10001)...)...)
	}
	for owner := range 2 {
		list = append(list, variants(plainTariff, setWeight(owner), append(farNumbers(), 1001)...)...)
	}
	return list
}

// briefly returns the beginning of what there may be very much of.
func briefly(what any) string {
	s := fmt.Sprintf("%+v", what)
	return s[:min(len(s), 200)]
}

func TestLimitsOfChapter8(t *testing.T) {
	if impl.MaxAccounts != 12 || impl.MaxEntries != 2000 {
		t.Errorf("the limits are %d and %d", impl.MaxAccounts, impl.MaxEntries)
	}
}

func TestTariffOk(t *testing.T) {
	for _, f := range validTariffs() {
		if !impl.TariffOk(f) {
			t.Errorf("TariffOk(%+v) is false", f)
		}
	}
	for _, f := range invalidTariffs() {
		if impl.TariffOk(f) {
			t.Errorf("TariffOk(%s) is true", briefly(f))
		}
	}
}

// boatOf returns a boat with what a toll looks at.
func boatOf(id int, length int, width int, class int) impl.Boat {
	return impl.Boat{Id: id, Length: length, Width: width, Draught: 8, Speed: 6, Class: class}
}

func TestTollOf(t *testing.T) {
	one := func(length int, width int, class int) impl.Train {
		return up([]impl.Boat{boatOf(5, length, width, class)})
	}
	f := impl.Tariff{Base: 10, PerArea: 3, PerClass: []int{1000, 2000, 4000}, Weights: []int{1}}
	perArea := func(n int) impl.Tariff {
		return impl.Tariff{PerArea: n, PerClass: []int{0, 0, 0}, Weights: []int{1}}
	}
	known := []struct {
		tariff impl.Tariff
		train  impl.Train
		toll   int
	}{
		// Each class has its own toll.
		{f, one(50, 4, 0), 1016}, {f, one(50, 4, 1), 2016}, {f, one(50, 4, 2), 4016},
		// The quotient is rounded down, and the product is not divided before it is whole.
		{perArea(1), one(33, 3, 1), 0}, {perArea(1), one(25, 4, 1), 1}, {perArea(1), one(199, 1, 1), 1}, {perArea(1), one(200, 1, 1), 2},
		{perArea(3), one(50, 1, 1), 1}, {perArea(3), one(33, 1, 1), 0}, {perArea(3), one(17, 2, 1), 1}, {perArea(99), one(1, 1, 1), 0},
		{perArea(100), one(1, 1, 1), 1}, {perArea(100), one(37, 11, 1), 407}, {perArea(7), one(43, 9, 1), 27},
		// Without an area, without a base, and with nothing at all.
		{impl.Tariff{Base: 9, PerClass: []int{1, 2, 3}, Weights: []int{1}}, one(200, 30, 2), 12},
		{impl.Tariff{PerArea: 1, PerClass: []int{1, 2, 3}, Weights: []int{1}}, one(200, 30, 0), 61},
		{perArea(0), one(200, 30, 0), 0},
		// The greatest length of each row, the greatest width, and the least class; not the boats one by one.
		{f, up([]impl.Boat{boatOf(1, 50, 4, 2), boatOf(2, 30, 6, 1)}, []impl.Boat{boatOf(3, 20, 9, 2)}), 2010 + 3*70*10/100},
		{f, down([]impl.Boat{boatOf(1, 50, 4, 2)}, []impl.Boat{boatOf(2, 30, 6, 0)}, []impl.Boat{boatOf(3, 20, 9, 1)}), 1010 + 3*100*9/100},
		{f, down([]impl.Boat{boatOf(1, 50, 4, 2), boatOf(2, 51, 6, 2)}), 4010 + 3*51*10/100},
		// The greatest toll: three boats side by side, and three behind them.
		{
			impl.Tariff{Base: 10000, PerArea: 100, PerClass: []int{0, 0, 10000}, Weights: []int{1}},
			up([]impl.Boat{boatOf(1, 200, 30, 2), boatOf(2, 200, 30, 2), boatOf(3, 200, 30, 2)},
				[]impl.Boat{boatOf(4, 200, 30, 2)}, []impl.Boat{boatOf(5, 200, 30, 2)}, []impl.Boat{boatOf(6, 200, 30, 2)}),
			92000,
		},
	}
	for _, k := range known {
		if toll := impl.TollOf(k.tariff, k.train); toll != k.toll {
			t.Errorf("TollOf(%+v, %v) = %d, not %d", k.tariff, k.train, toll, k.toll)
		}
	}
}

// naiveToll counts hundreds of the area one by one.
func naiveToll(f impl.Tariff, train impl.Train) int {
	n := naiveNumbers(train)
	toll := f.Base + f.PerClass[n.class]
	for rest := f.PerArea * n.length * n.width; rest >= 100; rest -= 100 {
		toll++
	}
	return toll
}

func randomTariff(rnd *rand.Rand) impl.Tariff {
	f := impl.Tariff{
		Base: rnd.Intn(10001), PerArea: rnd.Intn(101),
		PerClass: []int{rnd.Intn(10001), rnd.Intn(10001), rnd.Intn(10001)},
	}
	if rnd.Intn(3) == 0 {
		// Small tolls, of which not every owner gets something.
		f = impl.Tariff{Base: rnd.Intn(4), PerArea: rnd.Intn(2), PerClass: []int{rnd.Intn(3), rnd.Intn(3), rnd.Intn(3)}}
	}
	greatest := []int{1, 3, 20, 1000}[rnd.Intn(4)]
	for range 1 + rnd.Intn(impl.MaxAccounts-1) {
		f.Weights = append(f.Weights, rnd.Intn(greatest+1))
	}
	if slices.Max(f.Weights) == 0 {
		f.Weights[rnd.Intn(len(f.Weights))] = greatest
	}
	return f
}

func TestManyTolls(t *testing.T) {
	rnd := rand.New(rand.NewSource(81))
	for range 3000 {
		f, train := randomTariff(rnd), randomTrain(rnd, rnd.Intn(1000))
		if toll := impl.TollOf(f, train); toll != naiveToll(f, train) {
			t.Fatalf("TollOf(%+v, %v) = %d, not %d", f, train, toll, naiveToll(f, train))
		}
	}
}

func TestNoTollWithoutATariffOrATrain(t *testing.T) {
	for _, f := range invalidTariffs() {
		for _, train := range append(validTrains(), impl.Train{}, impl.Train{Rows: rows{nil}}) {
			if toll := impl.TollOf(f, train); toll != 0 {
				t.Errorf("TollOf(%s, %v) = %d", briefly(f), train, toll)
			}
		}
	}
	for _, train := range invalidTrains() {
		for _, f := range append(validTariffs(), impl.Tariff{}) {
			if toll := impl.TollOf(f, train); toll != 0 {
				t.Errorf("TollOf(%+v, %s) = %d", f, brief(train), toll)
			}
		}
	}
}
