package tests

import (
	"slices"
	"testing"

	"loop.example/g03317/impl"
)

// ruleChanges are the functions of chapter 6 that get trains.
func ruleChanges() map[string]func(list []impl.Call, now int) []int {
	return map[string]func(list []impl.Call, now int) []int{
		"OrderCalls": impl.OrderCalls,
		"NextSide": func(list []impl.Call, now int) []int {
			impl.NextSide(list, impl.Turn{Up: true, Count: 3}, now)
			impl.NextSide(list, impl.Turn{}, now)
			return nil
		},
		"those of single calls": func(list []impl.Call, now int) []int {
			for _, c := range list {
				impl.CallOk(c)
				impl.RankOf(c, now)
				impl.ComesBefore(c, list[0], now)
				impl.ComesBefore(list[0], c, now)
			}
			return nil
		},
	}
}

// givenCalls has calls of all kinds, with trains that are valid or not.
func givenCalls() []impl.Call {
	var list []impl.Call
	booked := []int{-1, 0, 50, 150, -2}
	for i, train := range givenTrains() {
		list = append(list, impl.Call{Train: train, Since: 130 - i%140, Booked: booked[i%len(booked)]})
	}
	return list
}

func TestCallsAreNotChanged(t *testing.T) {
	for name, change := range ruleChanges() {
		for _, now := range []int{-1, 0, 80, 100, 200, impl.MaxTime} {
			k := &kept{}
			var list []impl.Call
			for _, c := range givenCalls() {
				c.Train = k.roomy(c.Train)
				k.trains = append(k.trains, c.Train)
				list = append(list, c)
			}
			k.trainsBefore = slices.Clone(k.trains)
			list = append(list, waits(97, 1, -1), waits(98, 1, 0))
			before := slices.Clone(list)
			change(list[:len(list)-2], now)
			if !k.isUnchanged() || !slices.EqualFunc(list, before, sameCall) {
				t.Errorf("%s at %d changes calls", name, now)
			}
		}
	}
}

// sameCall also tells calls of the same trains apart that lie elsewhere.
func sameCall(a impl.Call, b impl.Call) bool {
	return a.Since == b.Since && a.Booked == b.Booked && a.Train.Up == b.Train.Up && blockOf(a.Train.Rows) == blockOf(b.Train.Rows)
}

func TestOrdersAreNewEachTime(t *testing.T) {
	list := givenCalls()
	first := impl.OrderCalls(list, 200)
	want := slices.Clone(first)
	for i := range first[:cap(first)] {
		first[:cap(first)][i] = -1
	}
	if order := impl.OrderCalls(list, 200); len(want) == 0 || !slices.Equal(order, want) {
		t.Errorf("OrderCalls = %v, and %v before", order, want)
	}
}

func TestPausesAreNotChanged(t *testing.T) {
	for _, given := range append(validPauses(), invalidPauses()...) {
		list := append(slices.Clone(given), impl.Pause{From: 6, Until: 7}, impl.Pause{From: 88, Until: 99})
		before := slices.Clone(list)
		some := list[:len(given)]
		for _, now := range []int{-1, 0, 5, 9, 12, impl.MaxTime} {
			impl.PausesOk(some)
			impl.IsOpen(some, now)
			impl.NextOpen(some, now)
		}
		if !slices.Equal(list, before) {
			t.Errorf("%v have become %v", briefPauses(before), briefPauses(list))
		}
	}
}
