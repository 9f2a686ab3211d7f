package tests

import (
	"math/rand"
	"slices"
	"testing"

	"loop.example/g03317/impl"
)

// voyage is a mover with the places at which it has been.
type voyage struct {
	mover  impl.Mover
	places []int
}

func (v *voyage) sail(w impl.Way, r impl.Reach) {
	v.places = append(v.places, v.mover.Place)
	v.mover = impl.MoveOne(v.mover, w, r)
}

func naiveAtEnd(m impl.Mover, w impl.Way) bool {
	return m.Train.Up && m.Place == 0 || !m.Train.Up && m.Place == w.Length
}

// TestTrainsArriveWhenTheyAreTold counts the moves of each train, and has it told at each of them.
func TestTrainsArriveWhenTheyAreTold(t *testing.T) {
	rnd := rand.New(rand.NewSource(75))
	times := map[int]int{}
	for range 3000 {
		w, r := randomWater(rnd)
		v := voyage{mover: randomMover(rnd, w)}
		told := impl.TimeTo(v.mover, w, r)
		times[min(told, 2)]++
		for left := told; left >= 0; left-- {
			if impl.TimeTo(v.mover, w, r) != left || impl.AtEnd(v.mover, w) != (left == 0) || naiveAtEnd(v.mover, w) != (left == 0) {
				t.Fatalf("%+v, told %d, is not at the end of %+v after %d more: %v", v.mover, told, w, left, v.places)
			}
			v.sail(w, r)
		}
		// There it stays.
		if told >= 0 && (!naiveAtEnd(v.mover, w) || impl.TimeTo(v.mover, w, r) != 0) {
			t.Fatalf("%+v has left the end of %+v: %v", v.mover, w, v.places)
		}
	}
	for told := -1; told <= 2; told++ {
		if times[told] < 20 {
			t.Errorf("the times are %v", times)
		}
	}
}

// TestTrainsStandStillWithoutDepth has each draught in each depth around it.
func TestTrainsStandStillWithoutDepth(t *testing.T) {
	w := impl.Way{Length: 30, Bed: 500}
	for draught := 1; draught <= 100; draught++ {
		for _, train := range []impl.Train{deep(1, draught, true), up(row(2), []impl.Boat{deep(1, draught, true).Rows[0][0]}), deep(1, draught, false)} {
			needed := naiveNumbers(train).draught
			for level := 490; level <= 602; level++ {
				m := impl.Mover{Train: train, Place: 15}
				ids := impl.GroundedOf([]impl.Mover{m}, w, at(level))
				moved := impl.MoveOne(m, w, at(level))
				if afloat := level-500 >= needed; afloat == (moved.Place == 15) || afloat != (len(ids) == 0) || afloat == (impl.TimeTo(m, w, at(level)) == -1) {
					t.Fatalf("%v is at %d, grounded %v at the level %d", train, moved.Place, ids, level)
				}
			}
		}
	}
}

// TestWhoNeverArrives compares those that are told that they never arrive with those that stand still.
func TestWhoNeverArrives(t *testing.T) {
	rnd := rand.New(rand.NewSource(76))
	never := 0
	for range 5000 {
		w, r := randomWater(rnd)
		m := randomMover(rnd, w)
		grounded := slices.Equal(impl.GroundedOf([]impl.Mover{m}, w, r), []int{m.Train.Rows[0][0].Id})
		standsStill := sameMover(impl.MoveOne(m, w, r), m) && !naiveAtEnd(m, w)
		if told := impl.TimeTo(m, w, r); (told == -1) != standsStill || standsStill != (grounded && !naiveAtEnd(m, w)) {
			t.Fatalf("%+v on %+v in %v is told %d", m, w, r, told)
		}
		if standsStill {
			never++
		}
	}
	if never < 500 {
		t.Errorf("only %d trains never arrive", never)
	}
}

// TestTrainsSailWithTheWater lets a reach fall and rise while trains are on it.
func TestTrainsSailWithTheWater(t *testing.T) {
	rnd := rand.New(rand.NewSource(77))
	arrived, waited := 0, 0
	for range 200 {
		w := impl.Way{Length: 1 + rnd.Intn(100), Bed: 20}
		r, _ := impl.NewReach(points{{X: 20, Y: 0}, {X: 200, Y: 1800}}, 20+rnd.Intn(120), rnd.Intn(3))
		v := voyage{mover: randomMover(rnd, w)}
		for range 400 {
			if rnd.Intn(2) == 0 {
				r = impl.SendTo(r, rnd.Intn(60))
			} else {
				r, _ = impl.TakeOff(r, rnd.Intn(60), 100)
			}
			r = impl.FlowIn(r)
			before := v.mover
			v.sail(w, r)
			if v.mover.Place != naiveNext(before, w, r) || v.mover.Place < 0 || v.mover.Place > w.Length || !sameTrain(v.mover.Train, before.Train) {
				t.Fatalf("%+v is at %d on %+v in %v", before, v.mover.Place, w, r)
			}
			if v.mover.Place == before.Place && !naiveAtEnd(before, w) {
				waited++
			}
		}
		if impl.AtEnd(v.mover, w) {
			arrived++
		}
	}
	if arrived < 100 || waited < 1000 {
		t.Errorf("%d trains have arrived, which have stood still %d times", arrived, waited)
	}
}
