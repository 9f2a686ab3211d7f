package tests

import (
	"math/rand"
	"slices"
	"testing"

	"loop.example/g03317/impl"
)

func TestGroundedOf(t *testing.T) {
	a, b, c := swift(41, 10, 7), swift(12, 11, 9), swift(33, 12, 5)
	up := func(place int, list ...[]impl.Boat) impl.Mover {
		return impl.Mover{Train: impl.Train{Up: true, Rows: list}, Place: place}
	}
	down := func(place int, list ...[]impl.Boat) impl.Mover {
		return impl.Mover{Train: impl.Train{Rows: list}, Place: place}
	}
	some := []impl.Boat{a}
	others := []impl.Boat{b}
	last := []impl.Boat{c}
	known := []struct {
		list  []impl.Mover
		depth int
		ids   []int
	}{
		{nil, 10, nil}, {[]impl.Mover{}, 0, nil},
		{[]impl.Mover{up(20, some)}, 9, []int{41}}, {[]impl.Mover{up(20, some)}, 10, nil}, {[]impl.Mover{up(20, some)}, 0, []int{41}},
		{[]impl.Mover{down(20, some)}, 9, []int{41}}, {[]impl.Mover{down(20, some)}, 10, nil},
		// In the order of the list, whoever they are and wherever.
		{[]impl.Mover{up(20, some), down(0, others), up(7, last)}, 9, []int{41, 12, 33}},
		{[]impl.Mover{up(7, last), down(0, others), up(20, some)}, 9, []int{33, 12, 41}},
		{[]impl.Mover{up(20, some), down(0, others), up(7, last)}, 10, []int{12, 33}},
		{[]impl.Mover{up(20, some), down(0, others), up(7, last)}, 11, []int{33}},
		{[]impl.Mover{up(20, some), down(0, others), up(7, last)}, 12, nil},
		// The first one of the Ids, whichever boat is the deepest.
		{[]impl.Mover{up(20, []impl.Boat{a, c}), up(20, []impl.Boat{b}, []impl.Boat{c}), down(20, []impl.Boat{c}, []impl.Boat{a, b})}, 11, []int{41, 12, 33}},
		// The same train at several places, and at the end for which it is bound.
		{[]impl.Mover{up(0, some), up(0, some), down(40, some), up(40, some)}, 9, []int{41, 41, 41, 41}},
		{[]impl.Mover{up(0, some), down(40, others)}, 10, []int{12}},
		// Those that are not valid do not count.
		{[]impl.Mover{up(41, some), down(-1, some), up(20), up(20, nil), up(20, some, some), down(20, others)}, 9, []int{12}},
		{[]impl.Mover{up(-1, some), {}, down(41, some)}, 9, nil},
	}
	for _, k := range known {
		if ids := impl.GroundedOf(k.list, plainWay(), at(30+k.depth)); !slices.Equal(ids, k.ids) {
			t.Errorf("GroundedOf(%+v) in the depth %d = %v", k.list, k.depth, ids)
		}
	}
}

func TestManyAreGrounded(t *testing.T) {
	rnd := rand.New(rand.NewSource(74))
	for range 300 {
		w, r := randomWater(rnd)
		var list []impl.Mover
		var want []int
		for range rnd.Intn(60) {
			m := randomMover(rnd, w)
			m.Place += rnd.Intn(12) - 2
			if rnd.Intn(6) == 0 {
				m.Train.Rows = append(m.Train.Rows, nil)
			}
			list = append(list, m)
			if naiveTrainOk(m.Train) && m.Place >= 0 && m.Place <= w.Length && impl.LevelOf(r)-w.Bed < naiveNumbers(m.Train).draught {
				want = append(want, m.Train.Rows[0][0].Id)
			}
		}
		if ids := impl.GroundedOf(list, w, r); !slices.Equal(ids, want) {
			t.Fatalf("GroundedOf of %d trains on %+v in %v = %v", len(list), w, r, ids)
		}
	}
}

func TestNobodyIsGroundedWhereSomethingIsInvalid(t *testing.T) {
	list := movers(append(validTrains(), up(row(5)), down(row(6))), 0, 1, 20)
	for _, w := range invalidWays() {
		for _, r := range []impl.Reach{at(0), at(200), {}} {
			if ids := impl.GroundedOf(list, w, r); len(ids) != 0 {
				t.Errorf("GroundedOf on %+v = %v", w, ids)
			}
		}
	}
	for _, r := range invalidReaches() {
		if ids := impl.GroundedOf(list, plainWay(), r); len(ids) != 0 {
			t.Errorf("GroundedOf in %.120v = %v", r, ids)
		}
	}
	for _, r := range []impl.Reach{at(0), at(200)} {
		bad := append(movers(invalidTrains(), 0, 20, 40), movers(validTrains(), badPlaces(plainWay())...)...)
		if ids := impl.GroundedOf(bad, plainWay(), r); len(ids) != 0 {
			t.Errorf("GroundedOf of movers that are not valid = %v", ids)
		}
	}
}

func TestVeryManyMovers(t *testing.T) {
	trains := []impl.Train{single(true, swift(1, 10, 7)), single(false, swift(2, 9, 7)), up(row(3), row(4)), {}}
	list := slices.Repeat(movers(trains, 0, 41), 50000)
	want := slices.Repeat([]int{1}, 50000)
	if ids := impl.GroundedOf(list, plainWay(), at(39)); !slices.Equal(ids, want) {
		t.Errorf("GroundedOf has %d elements", len(ids))
	}
	if ids := impl.GroundedOf(make([]impl.Mover, 1000000), plainWay(), at(0)); len(ids) != 0 {
		t.Errorf("GroundedOf movers without trains has %d elements", len(ids))
	}
}
