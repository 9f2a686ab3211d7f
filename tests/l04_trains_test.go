package tests

import (
	"math"
	"math/rand"
	"slices"
	"testing"

	"loop.example/g03317/impl"
)

// wide returns a boat of a width.
func wide(id int, width int) impl.Boat {
	b := plainBoat(id)
	b.Width = width
	return b
}

func randomBoat(rnd *rand.Rand, id int) impl.Boat {
	return impl.Boat{
		Id: id, Length: 1 + rnd.Intn(200), Width: 1 + rnd.Intn(30),
		Draught: 1 + rnd.Intn(100), Speed: 1 + rnd.Intn(50), Class: rnd.Intn(3),
	}
}

// randomTrain has Ids from one more than first on, in any order.
func randomTrain(rnd *rand.Rand, first int) impl.Train {
	count := 1 + rnd.Intn(impl.MaxBoats)
	t := impl.Train{Up: rnd.Intn(2) == 0, Rows: rows{nil}}
	for _, id := range rnd.Perm(count) {
		last := len(t.Rows) - 1
		if len(t.Rows[last]) > 0 && rnd.Intn(2) == 0 {
			t.Rows = append(t.Rows, nil)
			last++
		}
		t.Rows[last] = append(t.Rows[last], randomBoat(rnd, first+1+id))
	}
	return t
}

func someTrains(seed int64, count int) []impl.Train {
	rnd := rand.New(rand.NewSource(seed))
	list := validTrains()
	for range count {
		list = append(list, randomTrain(rnd, rnd.Intn(impl.MaxId-impl.MaxBoats+1)))
	}
	return list
}

// numbersOf are the results of LengthOf, WidthOf, DraughtOf, SpeedOf and ClassOf.
type numbersOf struct{ length, width, draught, speed, class int }

func numbers(t impl.Train) numbersOf {
	return numbersOf{impl.LengthOf(t), impl.WidthOf(t), impl.DraughtOf(t), impl.SpeedOf(t), impl.ClassOf(t)}
}

// naiveNumbers sorts what it looks for the greatest or the least of.
func naiveNumbers(t impl.Train) numbersOf {
	var widths, draughts, speeds, classes []int
	sum := 0
	for _, r := range t.Rows {
		var lengths []int
		width := 0
		for _, b := range r {
			lengths = append(lengths, b.Length)
			draughts = append(draughts, b.Draught)
			speeds = append(speeds, b.Speed)
			classes = append(classes, b.Class)
			width += b.Width
		}
		slices.Sort(lengths)
		sum += lengths[len(lengths)-1]
		widths = append(widths, width)
	}
	for _, list := range [][]int{widths, draughts, speeds, classes} {
		slices.Sort(list)
	}
	return numbersOf{sum, widths[len(widths)-1], draughts[len(draughts)-1], speeds[0], classes[0]}
}

func TestNumbersOfTrains(t *testing.T) {
	tug := impl.Boat{Id: 1, Length: 30, Width: 5, Draught: 8, Speed: 6, Class: impl.ClassCargo}
	boat := impl.Boat{Id: 2, Length: 12, Width: 4, Draught: 3, Speed: 9, Class: impl.ClassSmall}
	ferry := impl.Boat{Id: 3, Length: 80, Width: 11, Draught: 2, Speed: 50, Class: impl.ClassPassenger}
	longest := impl.Boat{Length: 200, Width: 30, Draught: 100, Speed: 50, Class: impl.ClassSmall}
	var most []impl.Boat
	for id := range impl.MaxBoats {
		longest.Id = id + 1
		most = append(most, longest)
	}
	known := []struct {
		train impl.Train
		want  numbersOf
	}{
		{up([]impl.Boat{tug}), numbersOf{30, 5, 8, 6, 1}},
		{down([]impl.Boat{boat}), numbersOf{12, 4, 3, 9, 2}},
		{up([]impl.Boat{ferry}), numbersOf{80, 11, 2, 50, 0}},
		{up([]impl.Boat{tug, boat}), numbersOf{30, 9, 8, 6, 1}},
		{up([]impl.Boat{boat, tug}), numbersOf{30, 9, 8, 6, 1}},
		{down([]impl.Boat{tug}, []impl.Boat{boat}), numbersOf{42, 5, 8, 6, 1}},
		{down([]impl.Boat{boat}, []impl.Boat{tug}), numbersOf{42, 5, 8, 6, 1}},
		{up([]impl.Boat{tug, boat}, []impl.Boat{ferry}), numbersOf{110, 11, 8, 6, 0}},
		{up([]impl.Boat{ferry}, []impl.Boat{boat, tug}), numbersOf{110, 11, 8, 6, 0}},
		{up([]impl.Boat{boat, ferry}, []impl.Boat{tug}), numbersOf{110, 15, 8, 6, 0}},
		{down([]impl.Boat{tug, boat, ferry}), numbersOf{80, 20, 8, 6, 0}},
		{up(most), numbersOf{200, 180, 100, 50, 2}},
		{up(most[:1], most[1:2], most[2:3], most[3:4], most[4:5], most[5:]), numbersOf{1200, 30, 100, 50, 2}},
		{down(most[:2], most[2:]), numbersOf{400, 120, 100, 50, 2}},
		{down(most[:4], most[4:]), numbersOf{400, 120, 100, 50, 2}},
	}
	for _, k := range known {
		if got := numbers(k.train); got != k.want {
			t.Errorf("the numbers of %v are %+v", k.train, got)
		}
	}
}

func TestNumbersOfManyTrains(t *testing.T) {
	for _, train := range someTrains(41, 3000) {
		if got := numbers(train); got != naiveNumbers(train) {
			t.Errorf("the numbers of %v are %+v", train, got)
		}
	}
}

func TestIdsOf(t *testing.T) {
	known := []struct {
		train impl.Train
		ids   []int
	}{
		{up(row(5)), []int{5}},
		{down(row(9999)), []int{9999}},
		{down(row(5, 1)), []int{5, 1}},
		{up(row(5), row(1)), []int{5, 1}},
		{up(row(9, 2), row(4), row(3, 8, 1)), []int{9, 2, 4, 3, 8, 1}},
		{down(row(6), row(5), row(4), row(3), row(2), row(1)), []int{6, 5, 4, 3, 2, 1}},
	}
	for _, k := range known {
		if ids := impl.IdsOf(k.train); !slices.Equal(ids, k.ids) {
			t.Errorf("IdsOf(%v) = %v", k.train, ids)
		}
	}
}

func TestCoupleTrains(t *testing.T) {
	known := []struct{ a, b, coupled impl.Train }{
		{up(row(1)), up(row(2)), up(row(1), row(2))},
		{up(row(2)), up(row(1)), up(row(2), row(1))},
		{down(row(1)), down(row(2)), down(row(1), row(2))},
		{down(row(1, 2), row(3)), down(row(4), row(5, 6)), down(row(1, 2), row(3), row(4), row(5, 6))},
		{up(row(1, 2, 3)), up(row(4, 5, 6)), up(row(1, 2, 3), row(4, 5, 6))},
		{up(row(1, 2, 3, 4, 5)), up(row(6)), up(row(1, 2, 3, 4, 5), row(6))},
		{up(row(1)), up(row(2), row(3), row(4), row(5), row(6)), up(row(1), row(2), row(3), row(4), row(5), row(6))},
	}
	for _, k := range known {
		if coupled, ok := impl.CoupleTrains(k.a, k.b); !ok || !sameTrain(coupled, k.coupled) {
			t.Errorf("CoupleTrains(%v, %v) = %v, %v", k.a, k.b, coupled, ok)
		}
	}
	rejected := []struct{ a, b impl.Train }{
		{up(row(1)), down(row(2))},
		{down(row(1)), up(row(2))},
		{up(row(1)), up(row(1))},
		{up(row(1), row(2)), up(row(3, 2))},
		{down(row(1), row(2)), down(row(1))},
		{up(row(1, 2, 3, 4, 5, 6)), up(row(7))},
		{up(row(7)), up(row(1, 2, 3, 4, 5, 6))},
		{down(row(1), row(2), row(3)), down(row(4), row(5), row(6), row(7))},
		{up(row(1)), up(row(2), row(2))},
		{up(row(1)), impl.Train{Up: true}},
		{impl.Train{Up: true}, up(row(1))},
		{impl.Train{Up: true}, impl.Train{Up: true}},
		{impl.Train{}, impl.Train{}},
	}
	for _, k := range rejected {
		if coupled, ok := impl.CoupleTrains(k.a, k.b); ok || !isZeroTrain(coupled) {
			t.Errorf("CoupleTrains(%v, %v) = %v, %v", k.a, k.b, coupled, ok)
		}
	}
}

func TestCoupleManyTrains(t *testing.T) {
	rnd := rand.New(rand.NewSource(42))
	coupledOnes := 0
	for range 5000 {
		a, b := randomTrain(rnd, 0), randomTrain(rnd, rnd.Intn(2*impl.MaxBoats))
		want := impl.Train{Up: a.Up, Rows: slices.Concat(a.Rows, b.Rows)}
		coupled, ok := impl.CoupleTrains(a, b)
		if ok != (a.Up == b.Up && naiveTrainOk(want)) {
			t.Fatalf("CoupleTrains(%v, %v) = %v, %v", a, b, coupled, ok)
		}
		if !ok {
			want = impl.Train{}
		} else {
			coupledOnes++
		}
		if !sameTrain(coupled, want) {
			t.Fatalf("CoupleTrains(%v, %v) = %v, %v", a, b, coupled, ok)
		}
	}
	if coupledOnes < 500 {
		t.Errorf("only %d trains were coupled", coupledOnes)
	}
}

func TestDivideTrain(t *testing.T) {
	train := down(row(1, 2), row(3), row(4, 5))
	known := []struct {
		k             int
		front, behind impl.Train
	}{
		{1, down(row(1, 2)), down(row(3), row(4, 5))},
		{2, down(row(1, 2), row(3)), down(row(4, 5))},
	}
	for _, k := range known {
		front, behind, ok := impl.DivideTrain(train, k.k)
		if !ok || !sameTrain(front, k.front) || !sameTrain(behind, k.behind) {
			t.Errorf("DivideTrain(%v, %d) = %v, %v, %v", train, k.k, front, behind, ok)
		}
	}
	front, behind, ok := impl.DivideTrain(up(row(2), row(1)), 1)
	if !ok || !sameTrain(front, up(row(2))) || !sameTrain(behind, up(row(1))) {
		t.Errorf("a train bound upstream is divided into %v and %v, %v", front, behind, ok)
	}
}

func TestTrainsAreDividedBetweenRows(t *testing.T) {
	for _, train := range someTrains(43, 500) {
		for _, k := range []int{math.MinInt, -1, 0, len(train.Rows), len(train.Rows) + 1, impl.MaxBoats, math.MaxInt} {
			front, behind, ok := impl.DivideTrain(train, k)
			if ok || !isZeroTrain(front) || !isZeroTrain(behind) {
				t.Errorf("DivideTrain(%v, %d) = %v, %v, %v", train, k, front, behind, ok)
			}
		}
		for k := 1; k < len(train.Rows); k++ {
			front, behind, ok := impl.DivideTrain(train, k)
			if !ok || !sameTrain(front, impl.Train{Up: train.Up, Rows: train.Rows[:k]}) ||
				!sameTrain(behind, impl.Train{Up: train.Up, Rows: train.Rows[k:]}) {
				t.Errorf("DivideTrain(%v, %d) = %v, %v, %v", train, k, front, behind, ok)
			}
			if coupled, ok := impl.CoupleTrains(front, behind); !ok || !sameTrain(coupled, train) {
				t.Errorf("%v and %v are coupled to %v, %v", front, behind, coupled, ok)
			}
		}
	}
}

func TestReformTrain(t *testing.T) {
	known := []struct {
		train    impl.Train
		width    int
		reformed impl.Train
	}{
		{up(row(1)), 5, up(row(1))},
		{down(row(1)), 30, down(row(1))},
		{down(row(1)), math.MaxInt, down(row(1))},
		{up(row(1), row(2)), 10, up(row(1, 2))},
		{up(row(1), row(2)), 9, up(row(1), row(2))},
		{up(row(1, 2)), 9, up(row(1), row(2))},
		{down(row(1, 2)), 10, down(row(1, 2))},
		{down(row(1, 2, 3, 4, 5, 6)), 10, down(row(1, 2), row(3, 4), row(5, 6))},
		{down(row(1, 2, 3, 4, 5, 6)), 5, down(row(1), row(2), row(3), row(4), row(5), row(6))},
		{up(row(6), row(5), row(4), row(3), row(2), row(1)), 29, up(row(6, 5, 4, 3, 2), row(1))},
		{up(row(6), row(5), row(4), row(3), row(2), row(1)), 30, up(row(6, 5, 4, 3, 2, 1))},
		{up(row(6), row(5), row(4), row(3), row(2), row(1)), math.MaxInt, up(row(6, 5, 4, 3, 2, 1))},
		{up(row(1, 2), row(3)), 10, up(row(1, 2), row(3))},
		{up(row(1), row(2, 3)), 10, up(row(1, 2), row(3))},
		// A boat comes into the last row alone, also if it would fit into an earlier one.
		{up([]impl.Boat{wide(1, 3)}, []impl.Boat{wide(2, 9)}, []impl.Boat{wide(3, 3)}), 10,
			up([]impl.Boat{wide(1, 3)}, []impl.Boat{wide(2, 9)}, []impl.Boat{wide(3, 3)})},
		{up([]impl.Boat{wide(1, 3), wide(2, 9), wide(3, 1)}), 10, up([]impl.Boat{wide(1, 3)}, []impl.Boat{wide(2, 9), wide(3, 1)})},
		{up([]impl.Boat{wide(1, 10)}, []impl.Boat{wide(2, 1)}), 10, up([]impl.Boat{wide(1, 10)}, []impl.Boat{wide(2, 1)})},
		{up([]impl.Boat{wide(1, 1)}, []impl.Boat{wide(2, 1)}), 1, up([]impl.Boat{wide(1, 1)}, []impl.Boat{wide(2, 1)})},
		{down([]impl.Boat{wide(1, 30), wide(2, 30)}), 59, down([]impl.Boat{wide(1, 30)}, []impl.Boat{wide(2, 30)})},
		{down([]impl.Boat{wide(1, 30)}, []impl.Boat{wide(2, 30)}), 60, down([]impl.Boat{wide(1, 30), wide(2, 30)})},
	}
	for _, k := range known {
		if reformed, ok := impl.ReformTrain(k.train, k.width); !ok || !sameTrain(reformed, k.reformed) {
			t.Errorf("ReformTrain(%v, %d) = %v, %v", k.train, k.width, reformed, ok)
		}
	}
}

func TestReformTrainRejectsNarrowWidths(t *testing.T) {
	trains := []impl.Train{
		up([]impl.Boat{wide(1, 9)}),
		down([]impl.Boat{wide(1, 9), wide(2, 1)}),
		up([]impl.Boat{wide(1, 1), wide(2, 9)}),
		up([]impl.Boat{wide(1, 1)}, []impl.Boat{wide(2, 9)}, []impl.Boat{wide(3, 2)}),
	}
	for _, train := range trains {
		for _, width := range []int{math.MinInt, math.MinInt + 1, -1, 0, 1, 8} {
			if reformed, ok := impl.ReformTrain(train, width); ok || !isZeroTrain(reformed) {
				t.Errorf("ReformTrain(%v, %d) = %v, %v", train, width, reformed, ok)
			}
		}
		if reformed, ok := impl.ReformTrain(train, 9); !ok || !slices.Equal(impl.IdsOf(reformed), impl.IdsOf(train)) {
			t.Errorf("ReformTrain(%v, 9) = %v, %v", train, reformed, ok)
		}
	}
}

// checkReformed tells the rule of ReformTrain by its result: the boats are the same, no row of
// several boats is too wide, and the first boat of a row did not fit into the row before.
func checkReformed(t *testing.T, train impl.Train, width int, reformed impl.Train) {
	if reformed.Up != train.Up || !slices.Equal(slices.Concat(reformed.Rows...), slices.Concat(train.Rows...)) {
		t.Errorf("ReformTrain(%v, %d) has other boats: %v", train, width, reformed)
	}
	before := math.MaxInt - 30
	for _, r := range reformed.Rows {
		if len(r) == 0 || before+r[0].Width <= width {
			t.Errorf("ReformTrain(%v, %d) has a row too many: %v", train, width, reformed)
			return
		}
		before = 0
		for _, b := range r {
			before += b.Width
		}
		if before > width {
			t.Errorf("ReformTrain(%v, %d) has a row that is too wide: %v", train, width, reformed)
		}
	}
}

func TestReformManyTrains(t *testing.T) {
	for _, train := range someTrains(44, 500) {
		widest := 0
		for _, b := range slices.Concat(train.Rows...) {
			widest = max(widest, b.Width)
		}
		for width := -1; width <= 185; width++ {
			reformed, ok := impl.ReformTrain(train, width)
			if ok != (width >= widest) {
				t.Errorf("ReformTrain(%v, %d) = %v, %v", train, width, reformed, ok)
			}
			if !ok && !isZeroTrain(reformed) {
				t.Errorf("ReformTrain(%v, %d) = %v and false", train, width, reformed)
			}
			if ok {
				checkReformed(t, train, width, reformed)
			}
		}
	}
}
