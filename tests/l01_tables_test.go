package tests

import (
	"math"
	"math/rand"
	"slices"
	"testing"

	"loop.example/g03317/impl"
)

type points = []impl.Point

// stairs returns a table of n points that rises by step with each of them.
func stairs(n int, step int) points {
	list := make(points, n)
	for i := range list {
		list[i] = impl.Point{X: 10 * i, Y: step * i}
	}
	return list
}

func invalidTables() []points {
	return []points{
		nil,
		{},
		{{X: 1, Y: 1}},
		stairs(impl.MaxPoints+1, 1),
		stairs(100000, 1),
		{{X: 5, Y: 1}, {X: 5, Y: 2}},
		{{X: 5, Y: 1}, {X: 4, Y: 2}},
		{{X: 1, Y: 0}, {X: 2, Y: 1}, {X: 2, Y: 2}},
		{{X: 1, Y: 0}, {X: 3, Y: 1}, {X: 2, Y: 2}},
		{{X: 1, Y: 2}, {X: 2, Y: 1}},
		{{X: 1, Y: 0}, {X: 2, Y: 2}, {X: 3, Y: 1}},
		{{X: -1, Y: 0}, {X: 2, Y: 2}},
		{{X: 0, Y: -1}, {X: 2, Y: 2}},
		{{X: 0, Y: 0}, {X: impl.MaxAmount + 1, Y: 2}},
		{{X: 0, Y: 0}, {X: 1, Y: impl.MaxAmount + 1}},
		{{X: math.MinInt, Y: 0}, {X: 2, Y: 2}},
		{{X: 0, Y: math.MinInt}, {X: 2, Y: 2}},
		{{X: 0, Y: 0}, {X: math.MaxInt, Y: 2}},
		{{X: 0, Y: 0}, {X: 1, Y: math.MaxInt}},
	}
}

func validTables() []points {
	return []points{
		stairs(2, 1),
		stairs(impl.MaxPoints, 1),
		stairs(impl.MaxPoints, 7),
		stairs(5, 0),
		{{X: 10, Y: 0}, {X: 20, Y: 100}, {X: 30, Y: 100}},
		{{X: 0, Y: 0}, {X: 1, Y: 0}},
		{{X: 3, Y: 4}, {X: 4, Y: 40}, {X: 9, Y: 41}, {X: 30, Y: 41}, {X: 31, Y: 41}, {X: 38, Y: 50}},
		{{X: 0, Y: 2}, {X: 7, Y: 2}, {X: 10, Y: 9}},
		{{X: 0, Y: 0}, {X: 97, Y: 3}},
	}
}

// wideTables reach the limits of both numbers.
func wideTables() []points {
	return []points{
		{{X: 0, Y: 0}, {X: impl.MaxAmount, Y: impl.MaxAmount}},
		{{X: 0, Y: 0}, {X: impl.MaxAmount - 1, Y: impl.MaxAmount}},
		{{X: 0, Y: 0}, {X: impl.MaxAmount, Y: impl.MaxAmount - 1}},
		{{X: 0, Y: 0}, {X: 1, Y: impl.MaxAmount}},
		{{X: 0, Y: 0}, {X: impl.MaxAmount, Y: 1}},
		{{X: impl.MaxAmount - 1, Y: impl.MaxAmount}, {X: impl.MaxAmount, Y: impl.MaxAmount}},
		{{X: 0, Y: 5}, {X: 333333333, Y: 999999999}, {X: impl.MaxAmount, Y: impl.MaxAmount}},
	}
}

func randomTable(r *rand.Rand) points {
	list := points{{X: r.Intn(4), Y: r.Intn(4)}}
	for range 1 + r.Intn(6) {
		p := list[len(list)-1]
		list = append(list, impl.Point{X: p.X + 1 + r.Intn(12), Y: p.Y + r.Intn(3)*r.Intn(15)})
	}
	return list
}

// naiveValue follows the text of ValueAt word by word.
func naiveValue(list points, x int) int {
	first, last := list[0], list[len(list)-1]
	if x <= first.X {
		return first.Y
	}
	if x >= last.X {
		return last.Y
	}
	value := 0
	for i, p := range list[:len(list)-1] {
		if q := list[i+1]; p.X <= x {
			value = p.Y + rise(x-p.X, q.Y-p.Y, q.X-p.X)
		}
	}
	return value
}

func TestTableOk(t *testing.T) {
	for _, list := range slices.Concat(validTables(), wideTables()) {
		if !impl.TableOk(list) {
			t.Errorf("TableOk(%v) is false", list)
		}
	}
	for _, list := range invalidTables() {
		if impl.TableOk(list) {
			t.Errorf("TableOk of %d points %.60v is true", len(list), list[:min(len(list), 3)])
		}
	}
}

func TestInvalidTablesHaveNoValues(t *testing.T) {
	for _, list := range invalidTables() {
		for _, n := range append([]int{3, 5}, extremes...) {
			if got := impl.ValueAt(list, n); got != 0 {
				t.Errorf("ValueAt of %d points at %d = %d", len(list), n, got)
			}
			if got, ok := impl.PlaceOf(list, n); got != 0 || ok {
				t.Errorf("PlaceOf %d in %d points = %d, %v", n, len(list), got, ok)
			}
		}
	}
}

func TestValueAt(t *testing.T) {
	list := points{{X: 10, Y: 5}, {X: 20, Y: 100}, {X: 30, Y: 100}, {X: 33, Y: 101}}
	known := []struct{ x, want int }{
		{math.MinInt, 5}, {-1, 5}, {0, 5}, {9, 5}, {10, 5}, {11, 14}, {12, 24}, {15, 52}, {19, 90}, {20, 100},
		{21, 100}, {29, 100}, {30, 100}, {31, 100}, {32, 100}, {33, 101}, {34, 101}, {math.MaxInt, 101},
	}
	for _, k := range known {
		if got := impl.ValueAt(list, k.x); got != k.want {
			t.Errorf("ValueAt(%d) = %d", k.x, got)
		}
	}
}

func TestValueAtEveryPlace(t *testing.T) {
	r := rand.New(rand.NewSource(1))
	tables := validTables()
	for range 300 {
		tables = append(tables, randomTable(r))
	}
	for _, list := range tables {
		for x := -2; x <= list[len(list)-1].X+2; x++ {
			if got, want := impl.ValueAt(list, x), naiveValue(list, x); got != want {
				t.Errorf("ValueAt(%v, %d) = %d, not %d", list, x, got, want)
			}
		}
	}
}

func TestValueAtOfWideTables(t *testing.T) {
	for _, list := range wideTables() {
		for _, x := range append([]int{333333332, 333333334, 500000000, 999999998}, extremes...) {
			if got, want := impl.ValueAt(list, x), naiveValue(list, x); got != want {
				t.Errorf("ValueAt(%v, %d) = %d, not %d", list, x, got, want)
			}
		}
	}
}

func TestPlaceOf(t *testing.T) {
	list := points{{X: 10, Y: 5}, {X: 20, Y: 100}, {X: 30, Y: 100}, {X: 33, Y: 101}}
	known := []struct {
		y, want int
		ok      bool
	}{
		{math.MinInt, 10, true}, {-1, 10, true}, {0, 10, true}, {5, 10, true}, {6, 11, true}, {14, 11, true},
		{15, 12, true}, {95, 20, true}, {90, 19, true}, {91, 20, true}, {100, 20, true}, {101, 33, true},
		{102, 0, false}, {math.MaxInt, 0, false},
	}
	for _, k := range known {
		if got, ok := impl.PlaceOf(list, k.y); got != k.want || ok != k.ok {
			t.Errorf("PlaceOf(%d) = %d, %v", k.y, got, ok)
		}
	}
}

func TestPlacesAreTheFirstAtWhichAValueIsReached(t *testing.T) {
	r := rand.New(rand.NewSource(2))
	tables := validTables()
	for range 300 {
		tables = append(tables, randomTable(r))
	}
	for _, list := range tables {
		for y := -2; y <= list[len(list)-1].Y+2; y++ {
			want, found := 0, false
			for x := list[0].X; x <= list[len(list)-1].X && !found; x++ {
				if naiveValue(list, x) >= y {
					want, found = x, true
				}
			}
			if got, ok := impl.PlaceOf(list, y); got != want || ok != found {
				t.Errorf("PlaceOf(%v, %d) = %d, %v, not %d, %v", list, y, got, ok, want, found)
			}
		}
	}
}

func TestPlaceOfInWideTables(t *testing.T) {
	for _, list := range wideTables() {
		for _, y := range append([]int{5, 6, 333333333, 500000000, 999999998}, extremes...) {
			x, ok := impl.PlaceOf(list, y)
			if last := list[len(list)-1]; ok != (y <= last.Y) {
				t.Errorf("PlaceOf(%v, %d) = %d, %v", list, y, x, ok)
			}
			if ok && (x < list[0].X || naiveValue(list, x) < y || x > list[0].X && naiveValue(list, x-1) >= y) {
				t.Errorf("PlaceOf(%v, %d) = %d", list, y, x)
			}
			if !ok && x != 0 {
				t.Errorf("PlaceOf(%v, %d) = %d and false", list, y, x)
			}
		}
	}
}

func TestTablesAreNotChanged(t *testing.T) {
	behind := append(stairs(4, 3), impl.Point{X: 77, Y: 88})
	list := behind[:4]
	before := slices.Clone(behind)
	impl.TableOk(list)
	impl.ValueAt(list, 15)
	impl.PlaceOf(list, 5)
	if !slices.Equal(behind, before) {
		t.Errorf("%v has become %v", before, behind)
	}
}
