package tests

import (
	"math"
	"testing"

	"loop.example/g03317/impl"
)

// swift returns a boat with a draught and a speed.
func swift(id int, draught int, speed int) impl.Boat {
	b := plainBoat(id)
	b.Draught, b.Speed = draught, speed
	return b
}

// single returns the train of one boat.
func single(bound bool, b impl.Boat) impl.Train {
	return impl.Train{Up: bound, Rows: rows{{b}}}
}

func TestPaceOf(t *testing.T) {
	known := []struct{ draught, speed, depth, pace int }{
		{10, 7, 0, 0}, {10, 7, 1, 0}, {10, 7, 9, 0}, {10, 7, 10, 4}, {10, 7, 11, 4}, {10, 7, 14, 4}, {10, 7, 15, 7}, {10, 7, 16, 7}, {10, 7, 1000, 7},
		{10, 6, 9, 0}, {10, 6, 10, 3}, {10, 6, 14, 3}, {10, 6, 15, 6},
		// An odd draught has its limit between two depths.
		{7, 9, 6, 0}, {7, 9, 7, 5}, {7, 9, 10, 5}, {7, 9, 11, 9}, {3, 9, 2, 0}, {3, 9, 3, 5}, {3, 9, 4, 5}, {3, 9, 5, 9},
		{1, 50, 0, 0}, {1, 50, 1, 25}, {1, 50, 2, 50}, {2, 49, 1, 0}, {2, 49, 2, 25}, {2, 49, 3, 49},
		{100, 50, 99, 0}, {100, 50, 100, 25}, {100, 50, 149, 25}, {100, 50, 150, 50},
		{99, 49, 98, 0}, {99, 49, 99, 25}, {99, 49, 148, 25}, {99, 49, 149, 49},
		{10, 1, 9, 0}, {10, 1, 10, 1}, {10, 1, 14, 1}, {10, 1, 15, 1}, {10, 2, 10, 1}, {10, 2, 15, 2}, {10, 3, 10, 2}, {10, 3, 15, 3},
		{10, 7, impl.MaxAmount - 1, 7}, {10, 7, impl.MaxAmount, 7}, {100, 50, impl.MaxAmount, 50},
	}
	for _, k := range known {
		for _, bound := range []bool{true, false} {
			if pace := impl.PaceOf(single(bound, swift(3, k.draught, k.speed)), k.depth); pace != k.pace {
				t.Errorf("PaceOf the draught %d and the speed %d in %d = %d", k.draught, k.speed, k.depth, pace)
			}
		}
	}
}

// naivePace follows the text of PaceOf word by word, with halves counted in full.
func naivePace(draught int, speed int, depth int) int {
	if depth < draught {
		return 0
	}
	if float64(depth) < 1.5*float64(draught) {
		return int(math.Ceil(float64(speed) / 2))
	}
	return speed
}

func TestPacesOfAllBoats(t *testing.T) {
	for draught := 1; draught <= 100; draught++ {
		for _, speed := range []int{1, 2, 3, 4, 5, 24, 25, 26, 47, 48, 49, 50} {
			train := single(speed%2 == 0, swift(1, draught, speed))
			for depth := range 160 {
				if pace := impl.PaceOf(train, depth); pace != naivePace(draught, speed, depth) {
					t.Fatalf("PaceOf the draught %d and the speed %d in %d = %d", draught, speed, depth, pace)
				}
			}
		}
	}
}

// TestPacesOfTrains has the deepest and the slowest boat at any place.
func TestPacesOfTrains(t *testing.T) {
	a, b, c := swift(1, 10, 20), swift(2, 4, 6), swift(3, 5, 30)
	for _, list := range []rows{
		{{a, b, c}}, {{c, b, a}}, {{b, a}, {c}}, {{c}, {a, b}}, {{a}, {b}, {c}}, {{b}, {c}, {a}}, {{c}, {a}, {b}}, {{c}, {b}, {a}},
	} {
		for depth := range 30 {
			want := naivePace(10, 6, depth)
			if up, down := impl.PaceOf(up(list...), depth), impl.PaceOf(down(list...), depth); up != want || down != want {
				t.Errorf("PaceOf(%v) in %d = %d upstream and %d downstream", list, depth, up, down)
			}
		}
	}
	for _, train := range someTrains(72, 1000) {
		n := naiveNumbers(train)
		for _, depth := range []int{0, n.draught - 1, n.draught, n.draught + 1, (3*n.draught - 1) / 2, (3*n.draught + 1) / 2, 2 * n.draught, 2 * impl.MaxLevel} {
			if pace := impl.PaceOf(train, depth); pace != naivePace(n.draught, n.speed, depth) {
				t.Fatalf("PaceOf(%v) in %d = %d", train, depth, pace)
			}
		}
	}
}

func TestNoPace(t *testing.T) {
	for _, train := range invalidTrains() {
		for _, depth := range append([]int{8, 50, 200}, extremes...) {
			if pace := impl.PaceOf(train, depth); pace != 0 {
				t.Errorf("PaceOf(%s) in %d = %d", brief(train), depth, pace)
			}
		}
	}
	// The last two are 1 and 200, if they are taken modulo 2^32.
	far := []int{math.MinInt, math.MinInt + 1, -impl.MaxAmount, -100, -1, impl.MaxAmount + 1, 1<<62 + 8, math.MaxInt - 1, math.MaxInt, 1<<32 + 1, 1<<32 + 200}
	for _, train := range validTrains() {
		for _, depth := range far {
			if pace := impl.PaceOf(train, depth); pace != 0 {
				t.Errorf("PaceOf(%v) in %d = %d", train, depth, pace)
			}
		}
	}
}
