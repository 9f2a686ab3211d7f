package tests

import (
	"math/rand"
	"slices"
	"testing"

	"loop.example/g03317/impl"
)

// sailing returns a plain waterway with these movers alone, in which a plain boat gets 6 places on.
func sailing(lists ...[]impl.Mover) impl.Waterway {
	return plainWith(func(x *impl.Waterway) {
		x.Movers = lists
		for k := range x.Works {
			x.Works[k].Calls = nil
		}
	})
}

func goes(train impl.Train, place int) impl.Mover {
	return impl.Mover{Train: train, Place: place}
}

func TestSailAll(t *testing.T) {
	want := plainWith(func(x *impl.Waterway) {
		x.Movers = [][]impl.Mover{{goes(up(row(1)), 14), goes(down(row(2, 3)), 16)}, {goes(down(row(4)), 11)}, {goes(up(row(5), row(6)), 1)}}
	})
	got := impl.SailAll(plainWaterway())
	if !alike(got, want) {
		t.Errorf("SailAll: %s", differing(got, want))
	}
	// Once more, and the last one waits for the lock behind the one that waits already.
	want.Movers = [][]impl.Mover{{goes(up(row(1)), 8), goes(down(row(2, 3)), 22)}, {goes(down(row(4)), 17)}, nil}
	want.Works[1].Calls = append(want.Works[1].Calls, impl.Call{Train: up(row(5), row(6)), Since: 10, Booked: -1})
	if got = impl.SailAll(got); !alike(got, want) {
		t.Errorf("SailAll: %s", differing(got, want))
	}
}

// TestEndsOfReaches has trains that come to each end, are there already, or are one place before it.
func TestEndsOfReaches(t *testing.T) {
	ends := []struct {
		train        impl.Train
		reach, place int
		arrives      bool
		work         int
	}{
		{up(row(1)), 0, 0, true, 0}, {up(row(1)), 1, 0, false, 0}, {up(row(1)), 2, 0, false, 1},
		{down(row(1)), 0, 40, false, 0}, {down(row(1)), 1, 30, false, 1}, {down(row(1)), 2, 20, true, 0},
	}
	for _, e := range ends {
		for left := range 9 {
			start := e.place - left
			if e.train.Up {
				start = left
			}
			lists := make([][]impl.Mover, 3)
			lists[e.reach] = []impl.Mover{goes(e.train, start)}
			x := sailing(lists...)
			want := sailing(nil, nil, nil)
			switch {
			case left > 6 && e.train.Up:
				want.Movers[e.reach] = []impl.Mover{goes(e.train, start-6)}
			case left > 6:
				want.Movers[e.reach] = []impl.Mover{goes(e.train, start+6)}
			case e.arrives:
				want.Arrived = append(want.Arrived, e.train)
			default:
				want.Works[e.work].Calls = []impl.Call{{Train: e.train, Since: 10, Booked: -1}}
			}
			if got := impl.SailAll(x); !alike(got, want) {
				t.Errorf("%v from %d on reach %d: %s", e.train, start, e.reach, differing(got, want))
			}
		}
	}
}

// TestGroundedTrainsAtTheirEnds leave the reach as well, but those before it do not get there.
func TestGroundedTrainsAtTheirEnds(t *testing.T) {
	x := sailing([]impl.Mover{goes(up(row(1)), 0), goes(up(row(2)), 1)}, nil, nil)
	x.Reaches[0] = lake(0)
	got := impl.SailAll(x)
	if !alike(got.Movers[0], []impl.Mover{goes(up(row(2)), 1)}) || !alike(got.Arrived[2:], []impl.Train{up(row(1))}) {
		t.Errorf("without water: %s", differing(got, x))
	}
}

// TestOrderOfSailing has many trains that leave reaches at once.
func TestOrderOfSailing(t *testing.T) {
	x := sailing(
		[]impl.Mover{goes(up(row(1)), 2), goes(down(row(2)), 38), goes(up(row(3)), 30), goes(down(row(4)), 40), goes(up(row(5)), 0)},
		[]impl.Mover{goes(up(row(6)), 2), goes(down(row(7)), 28), goes(down(row(8)), 5), goes(up(row(9)), 0), goes(down(row(10)), 30)},
		[]impl.Mover{goes(down(row(11)), 18), goes(up(row(12)), 2), goes(down(row(13)), 13), goes(down(row(14)), 20), goes(up(row(15)), 6)},
	)
	got := impl.SailAll(x)
	if want := []int{12, 13, 14, 1, 5, 11, 14}; !slices.Equal(idsOfTrains(got.Arrived), want) {
		t.Errorf("%v have arrived, not %v", idsOfTrains(got.Arrived), want)
	}
	for k, want := range [][]int{{2, 4, 6, 9}, {7, 10, 12, 15}} {
		if waiting := idsOfCalls(got.Works[k].Calls); !slices.Equal(waiting, want) {
			t.Errorf("%v call at work %d, not %v", waiting, k, want)
		}
	}
	for k, want := range [][]int{{3}, {8}, {13}} {
		if sailing := idsOfMovers(got.Movers[k]); !slices.Equal(sailing, want) {
			t.Errorf("%v sail on reach %d, not %v", sailing, k, want)
		}
	}
}

func idsOfTrains(list []impl.Train) []int {
	var ids []int
	for _, train := range list {
		ids = append(ids, impl.IdsOf(train)...)
	}
	return ids
}

func idsOfCalls(list []impl.Call) []int {
	var ids []int
	for _, c := range list {
		ids = append(ids, impl.IdsOf(c.Train)...)
	}
	return ids
}

func idsOfMovers(list []impl.Mover) []int {
	var ids []int
	for _, m := range list {
		ids = append(ids, impl.IdsOf(m.Train)...)
	}
	return ids
}

// TestFullCalls has room for one call more, and then others that come at once, from both sides.
func TestFullCalls(t *testing.T) {
	for _, room := range []int{0, 1, 2, 3, 4} {
		x := sailing(
			[]impl.Mover{goes(down(row(2)), 38), goes(up(row(3)), 30), goes(down(row(4)), 40)},
			[]impl.Mover{goes(up(row(6)), 2), goes(up(row(7)), 0)},
			nil,
		)
		x.Works[0].Calls = calls(impl.MaxCalls - room)
		got := impl.SailAll(x)
		come := []int{2, 4, 6, 7}
		stay := [][]int{{2, 3, 4}, {6, 7}}
		switch room {
		case 1:
			stay = [][]int{{3, 4}, {6, 7}}
		case 2:
			stay = [][]int{{3}, {6, 7}}
		case 3:
			stay = [][]int{{3}, {7}}
		case 4:
			stay = [][]int{{3}, nil}
		}
		if waiting := idsOfCalls(got.Works[0].Calls[impl.MaxCalls-room:]); !slices.Equal(waiting, come[:room]) {
			t.Errorf("with room for %d, %v come", room, waiting)
		}
		for k, want := range stay {
			if ids := idsOfMovers(got.Movers[k]); !slices.Equal(ids, want) {
				t.Errorf("with room for %d, %v stay on reach %d", room, ids, k)
			}
		}
		if room < 1 && (got.Movers[0][0].Place != 40 || got.Movers[0][2].Place != 40 || got.Movers[1][0].Place != 0) {
			t.Errorf("without room, the movers are %+v", got.Movers)
		}
		if !impl.WaterwayOk(got) {
			t.Errorf("with room for %d, it is not valid", room)
		}
	}
}

// TestArrivedAtTheLimit has nobody sail where one too many would arrive.
func TestArrivedAtTheLimit(t *testing.T) {
	for _, more := range []int{-1, 0, 1} {
		x := sailing([]impl.Mover{goes(up(row(1)), 2), goes(up(row(3)), 30)}, nil, []impl.Mover{goes(down(row(2)), 20)})
		x.Arrived = slices.Repeat(x.Arrived[:1], 498+more)
		got := impl.SailAll(x)
		if more > 0 && !alike(got, x) {
			t.Errorf("501 would have arrived: %s", differing(got, x))
		}
		if more <= 0 && (len(got.Arrived) != 500+more || !alike(got.Movers, [][]impl.Mover{{goes(up(row(3)), 24)}, nil, nil})) {
			t.Errorf("%d have arrived: %s", len(got.Arrived), differing(got, x))
		}
	}
}

// TestTimesOfCalls has each time from the first to the last one.
func TestTimesOfCalls(t *testing.T) {
	for _, time := range []int{0, 1, 999999, impl.MaxTime} {
		x := sailing([]impl.Mover{goes(down(row(1)), 40)}, nil, nil)
		x.Time = time
		got := impl.SailAll(x)
		if !alike(got.Works[0].Calls, []impl.Call{{Train: down(row(1)), Since: time, Booked: -1}}) {
			t.Errorf("at %d the calls are %+v", time, got.Works[0].Calls)
		}
	}
}

func TestSailAllRejects(t *testing.T) {
	for _, x := range invalidWaterways() {
		if got := impl.SailAll(x); !alike(got, x) {
			t.Errorf("SailAll: %s", differing(got, x))
		}
	}
}

// TestManySail compares what sails with the text of the chapter, where all move before one leaves.
func TestManySail(t *testing.T) {
	rnd := rand.New(rand.NewSource(93))
	arrived, called, unchanged := 0, 0, 0
	for range 800 {
		x := randomWaterway(rnd)
		if rnd.Intn(3) == 0 {
			x = crowded(rnd, x)
		}
		for range 3 {
			got, want := impl.SailAll(x), naiveSail(x)
			if !alike(got, want) {
				t.Fatalf("SailAll: %s", differing(got, want))
			}
			if len(got.Arrived) > len(x.Arrived) {
				arrived++
			}
			if len(got.Works[0].Calls) > len(x.Works[0].Calls) {
				called++
			}
			if impl.WaterwayOk(x) && alike(got, x) && len(x.Arrived) > 490 {
				unchanged++
			}
			x = got
		}
	}
	if arrived < 100 || called < 100 || unchanged < 5 {
		t.Errorf("%d times trains have arrived, %d times they call, and %d times nobody may arrive", arrived, called, unchanged)
	}
}
