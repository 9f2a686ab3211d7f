package tests

import (
	"fmt"
	"math"
	"slices"
	"testing"

	"loop.example/g03317/impl"
)

type rows = [][]impl.Boat

// plainBoat has no number at a limit, except for its Id where that is one.
func plainBoat(id int) impl.Boat {
	return impl.Boat{Id: id, Length: 30, Width: 5, Draught: 8, Speed: 6, Class: impl.ClassCargo}
}

// row returns plain boats, side by side.
func row(ids ...int) []impl.Boat {
	var boats []impl.Boat
	for _, id := range ids {
		boats = append(boats, plainBoat(id))
	}
	return boats
}

func up(list ...[]impl.Boat) impl.Train {
	return impl.Train{Up: true, Rows: list}
}

func down(list ...[]impl.Boat) impl.Train {
	return impl.Train{Up: false, Rows: list}
}

func sameTrain(a impl.Train, b impl.Train) bool {
	return a.Up == b.Up && slices.EqualFunc(a.Rows, b.Rows, slices.Equal)
}

func isZeroTrain(t impl.Train) bool {
	return !t.Up && len(t.Rows) == 0
}

// brief returns the beginning of what there may be very much of.
func brief(t impl.Train) string {
	s := fmt.Sprint(t)
	return s[:min(len(s), 200)]
}

// boatsWith returns plain boats, but with each of the numbers at the place that set writes to.
func boatsWith(set func(b *impl.Boat, n int), numbers ...int) []impl.Boat {
	var list []impl.Boat
	for _, n := range numbers {
		b := plainBoat(7)
		set(&b, n)
		list = append(list, b)
	}
	return list
}

func setId(b *impl.Boat, n int)        { b.Id = n }
func setLength(b *impl.Boat, n int)    { b.Length = n }
func setBoatWidth(b *impl.Boat, n int) { b.Width = n }
func setDraught(b *impl.Boat, n int)   { b.Draught = n }
func setSpeed(b *impl.Boat, n int)     { b.Speed = n }
func setClass(b *impl.Boat, n int)     { b.Class = n }

func validBoats() []impl.Boat {
	return slices.Concat(
		boatsWith(setId, 1, 2, impl.MaxId-1, impl.MaxId),
		boatsWith(setLength, 1, 2, 199, 200),
		boatsWith(setBoatWidth, 1, 2, 29, 30),
		boatsWith(setDraught, 1, 2, 99, 100),
		boatsWith(setSpeed, 1, 2, 49, 50),
		boatsWith(setClass, impl.ClassPassenger, impl.ClassCargo, impl.ClassSmall),
		[]impl.Boat{
			{Id: 1, Length: 1, Width: 1, Draught: 1, Speed: 1, Class: 0},
			{Id: impl.MaxId, Length: 200, Width: 30, Draught: 100, Speed: 50, Class: 2},
		},
	)
}

func invalidBoats() []impl.Boat {
	// The last two are 1 and 2, if they are taken modulo 2^32.
	far := []int{math.MinInt, math.MinInt + 1, -1, math.MaxInt - 1, math.MaxInt, 1<<32 + 1, 1<<32 + 2}
	least, most := math.MinInt, math.MaxInt
	return slices.Concat(
		boatsWith(setId, append(far, 0, impl.MaxId+1)...),
		boatsWith(setLength, append(far, 0, 201)...),
		boatsWith(setBoatWidth, append(far, 0, 31)...),
		boatsWith(setDraught, append(far, 0, 101)...),
		boatsWith(setSpeed, append(far, 0, 51)...),
		boatsWith(setClass, append(far, impl.ClassSmall+1)...),
		[]impl.Boat{
			{},
			{Id: least, Length: least, Width: least, Draught: least, Speed: least, Class: least},
			{Id: most, Length: most, Width: most, Draught: most, Speed: most, Class: most},
		},
	)
}

// validTrains have the rows in all numbers from 1 to MaxBoats, and so the boats of a row.
func validTrains() []impl.Train {
	list := []impl.Train{
		up(row(1)),
		down(row(1)),
		up(row(2, 1)),
		down(row(9999, 1), row(2)),
		up(row(3), row(1, 2)),
		up(row(1), row(2), row(3)),
		down(row(4, 3, 2, 1)),
		up(row(1, 2, 3), row(4, 5, 6)),
		up(row(1, 2), row(3, 4), row(5, 6)),
		down(row(1, 2, 3, 4, 5), row(6)),
		down(row(1), row(2, 3, 4, 5, 6)),
		up(row(1, 2, 3, 4, 5, 6)),
		down(row(6), row(5), row(4), row(3), row(2), row(1)),
	}
	for i, b := range validBoats() {
		list = append(list, up([]impl.Boat{b}), impl.Train{Up: i%2 == 0, Rows: rows{row(55), {plainBoat(56), b}}})
	}
	return list
}

func manyBoats(n int) []impl.Boat {
	return slices.Repeat([]impl.Boat{plainBoat(1)}, n)
}

func invalidTrains() []impl.Train {
	same := plainBoat(3)
	same.Length, same.Class = 31, impl.ClassSmall
	list := []rows{
		nil,
		{},
		{nil},
		{{}},
		{{}, {}},
		// A row without boats, wherever it is.
		{nil, row(1)},
		{row(1), {}},
		{row(1), {}, row(2)},
		{row(1, 2, 3, 4, 5, 6), {}},
		{{}, row(1, 2, 3, 4, 5, 6)},
		// One boat too many.
		{row(1, 2, 3, 4, 5, 6, 7)},
		{row(1), row(2), row(3), row(4), row(5), row(6), row(7)},
		{row(1, 2, 3), row(4, 5, 6, 7)},
		{row(1, 2, 3, 4, 5, 6), row(7)},
		{row(1), row(2, 3, 4, 5, 6, 7)},
		// An Id twice, and twice a pair of them.
		{row(1, 1)},
		{row(1), row(1)},
		{row(1, 2), row(3, 1)},
		{row(1, 2, 3), row(4, 5, 3)},
		{row(1, 2), row(1, 2)},
		{{plainBoat(3), same}},
		{{plainBoat(3)}, row(4), {same}},
		// Very many.
		{manyBoats(100000)},
		{row(1), manyBoats(100000)},
		slices.Repeat(rows{{}}, 100000),
		slices.Repeat(rows{row(1)}, 100000),
		slices.Repeat(rows{manyBoats(1000)}, 1000),
	}
	for _, b := range invalidBoats() {
		list = append(list, rows{{b}}, rows{{plainBoat(1), b}}, rows{{b, plainBoat(1)}}, rows{row(1, 2), {b}}, rows{{b}, row(1, 2)})
	}
	var trains []impl.Train
	for _, r := range list {
		trains = append(trains, up(r...), down(r...))
	}
	return trains
}

func TestLimitsOfChapter4(t *testing.T) {
	if impl.MaxBoats != 6 || impl.MaxId != 9999 {
		t.Errorf("the limits are %d and %d", impl.MaxBoats, impl.MaxId)
	}
	if impl.ClassPassenger != 0 || impl.ClassCargo != 1 || impl.ClassSmall != 2 {
		t.Errorf("the classes are %d, %d and %d", impl.ClassPassenger, impl.ClassCargo, impl.ClassSmall)
	}
}

func TestBoatOk(t *testing.T) {
	for _, b := range validBoats() {
		if !impl.BoatOk(b) {
			t.Errorf("BoatOk(%+v) is false", b)
		}
	}
	for _, b := range invalidBoats() {
		if impl.BoatOk(b) {
			t.Errorf("BoatOk(%+v) is true", b)
		}
	}
}

func TestTrainOk(t *testing.T) {
	for _, train := range validTrains() {
		if !impl.TrainOk(train) {
			t.Errorf("TrainOk(%v) is false", train)
		}
	}
	for _, train := range invalidTrains() {
		if impl.TrainOk(train) {
			t.Errorf("TrainOk(%s) is true", brief(train))
		}
	}
}

// naiveTrainOk counts and compares boat by boat.
func naiveTrainOk(t impl.Train) bool {
	seen := map[int]int{}
	count := 0
	for _, r := range t.Rows {
		if len(r) == 0 {
			return false
		}
		for _, b := range r {
			seen[b.Id]++
			count++
		}
	}
	return count >= 1 && count <= impl.MaxBoats && len(seen) == count
}

// TestEveryShapeOfTrains puts up to 8 boats into rows in every way, with an empty row here and there.
func TestEveryShapeOfTrains(t *testing.T) {
	for count := 0; count <= 8; count++ {
		for cuts := range 1 << count {
			for twice := range count + 1 {
				train := up(shaped(count, cuts, twice)...)
				if impl.TrainOk(train) != naiveTrainOk(train) {
					t.Errorf("TrainOk(%v) = %v", train, impl.TrainOk(train))
				}
			}
		}
	}
}

// shaped returns boats with the Ids from 1 on, where each bit of cuts that is set begins a new
// row (for boat 0 behind an empty one). The boat with the index twice has the Id 1.
func shaped(count int, cuts int, twice int) rows {
	list := rows{nil}
	for i := range count {
		id := i + 1
		if i == twice {
			id = 1
		}
		if cuts>>i&1 == 1 {
			list = append(list, nil)
		}
		list[len(list)-1] = append(list[len(list)-1], plainBoat(id))
	}
	return list
}

func TestInvalidTrainsHaveNoNumbers(t *testing.T) {
	for _, train := range invalidTrains() {
		if ids := impl.IdsOf(train); len(ids) != 0 {
			t.Errorf("IdsOf(%s) = %v", brief(train), ids)
		}
		numbers := [4]int{impl.LengthOf(train), impl.WidthOf(train), impl.DraughtOf(train), impl.SpeedOf(train)}
		if numbers != [4]int{} || impl.ClassOf(train) != -1 {
			t.Errorf("%s has the numbers %v and the class %d", brief(train), numbers, impl.ClassOf(train))
		}
	}
}

func TestInvalidTrainsAreRejected(t *testing.T) {
	good := up(row(101), row(102))
	for _, train := range invalidTrains() {
		a, coupled := impl.CoupleTrains(train, good)
		b, behind := impl.CoupleTrains(good, train)
		c, both := impl.CoupleTrains(train, train)
		if coupled || behind || both || !isZeroTrain(a) || !isZeroTrain(b) || !isZeroTrain(c) {
			t.Errorf("CoupleTrains accepts %s", brief(train))
		}
		for _, n := range []int{math.MinInt, -1, 0, 1, 2, 30, 1000, math.MaxInt} {
			front, rest, divided := impl.DivideTrain(train, n)
			if divided || !isZeroTrain(front) || !isZeroTrain(rest) {
				t.Errorf("DivideTrain(%s, %d) = %s, %s, %v", brief(train), n, brief(front), brief(rest), divided)
			}
			if wide, reformed := impl.ReformTrain(train, n); reformed || !isZeroTrain(wide) {
				t.Errorf("ReformTrain(%s, %d) = %s, %v", brief(train), n, brief(wide), reformed)
			}
		}
		if s := impl.FormatTrain(train); s != "" {
			t.Errorf("FormatTrain(%s) = %.200q", brief(train), s)
		}
	}
}
