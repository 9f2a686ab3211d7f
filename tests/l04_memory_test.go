package tests

import (
	"math"
	"slices"
	"testing"

	"loop.example/g03317/impl"
)

func blocksOfTrain(t impl.Train) []block {
	blocks := []block{blockOf(t.Rows)}
	for _, r := range t.Rows {
		blocks = append(blocks, blockOf(r))
	}
	return blocks
}

// roomyTrain returns the same train with all rows in one array, with other boats behind them and
// other rows behind the list, and the list and the array with all of it.
func roomyTrain(t impl.Train) (impl.Train, rows, []impl.Boat) {
	boats := append(slices.Concat(t.Rows...), plainBoat(77), plainBoat(78), plainBoat(79))
	var list rows
	at := 0
	for _, r := range t.Rows {
		list = append(list, boats[at:at+len(r)])
		at += len(r)
	}
	list = append(list, row(87), row(88))
	return impl.Train{Up: t.Up, Rows: list[:len(t.Rows)]}, list, boats
}

// trainChanges are the functions that return trains, each with arguments that it accepts or rejects.
func trainChanges() map[string]func(t impl.Train) []impl.Train {
	one := func(t impl.Train, _ bool) []impl.Train { return []impl.Train{t} }
	two := func(a impl.Train, b impl.Train, _ bool) []impl.Train { return []impl.Train{a, b} }
	other := func(t impl.Train) impl.Train { return impl.Train{Up: t.Up, Rows: rows{row(101)}} }
	return map[string]func(t impl.Train) []impl.Train{
		"CoupleTrains with one behind": func(t impl.Train) []impl.Train { return one(impl.CoupleTrains(t, other(t))) },
		"CoupleTrains with one ahead":  func(t impl.Train) []impl.Train { return one(impl.CoupleTrains(other(t), t)) },
		"CoupleTrains with itself":     func(t impl.Train) []impl.Train { return one(impl.CoupleTrains(t, t)) },
		"CoupleTrains with another way": func(t impl.Train) []impl.Train {
			return one(impl.CoupleTrains(t, impl.Train{Up: !t.Up, Rows: rows{row(101)}}))
		},
		"DivideTrain":                 func(t impl.Train) []impl.Train { return two(impl.DivideTrain(t, 1)) },
		"DivideTrain before the last": func(t impl.Train) []impl.Train { return two(impl.DivideTrain(t, len(t.Rows)-1)) },
		"DivideTrain, rejected":       func(t impl.Train) []impl.Train { return two(impl.DivideTrain(t, 0)) },
		"ReformTrain":                 func(t impl.Train) []impl.Train { return one(impl.ReformTrain(t, 30)) },
		"ReformTrain, all in a row":   func(t impl.Train) []impl.Train { return one(impl.ReformTrain(t, math.MaxInt)) },
		"ReformTrain, rejected":       func(t impl.Train) []impl.Train { return one(impl.ReformTrain(t, 0)) },
		"ParseTrain":                  func(t impl.Train) []impl.Train { return one(impl.ParseTrain(impl.FormatTrain(t))) },
		"no change": func(t impl.Train) []impl.Train {
			impl.TrainOk(t)
			impl.IdsOf(t)
			numbers(t)
			return nil
		},
	}
}

// givenTrains leaves out the trains with very many rows or boats.
func givenTrains() []impl.Train {
	tooMany := func(t impl.Train) bool {
		return len(t.Rows) > 100 || slices.ContainsFunc(t.Rows, func(r []impl.Boat) bool { return len(r) > 100 })
	}
	return slices.DeleteFunc(append(someTrains(47, 100), invalidTrains()...), tooMany)
}

func TestTrainsAreNotChanged(t *testing.T) {
	for name, change := range trainChanges() {
		for _, given := range givenTrains() {
			train, list, boats := roomyTrain(given)
			listBefore, boatsBefore := slices.Clone(list), slices.Clone(boats)
			change(train)
			if !slices.Equal(boats, boatsBefore) || !slices.EqualFunc(list, listBefore, sameRow) {
				t.Errorf("%s: %v has become %v", name, given, list)
			}
		}
	}
}

// sameRow also tells rows of the same boats apart that lie elsewhere.
func sameRow(a []impl.Boat, b []impl.Boat) bool {
	return blockOf(a) == blockOf(b) && slices.Equal(a, b)
}

func TestTrainsShareNoMemory(t *testing.T) {
	for name, change := range trainChanges() {
		for _, given := range givenTrains() {
			train, _, _ := roomyTrain(given)
			blocks := blocksOfTrain(train)
			for _, result := range change(train) {
				for _, b := range blocksOfTrain(result) {
					if slices.ContainsFunc(blocks, b.touches) {
						t.Errorf("%s of %v: a result shares memory", name, given)
					}
					blocks = append(blocks, b)
				}
			}
		}
	}
}

func TestIdsAreNewEachTime(t *testing.T) {
	for _, train := range someTrains(48, 20) {
		first := impl.IdsOf(train)
		want := slices.Clone(first)
		for i := range first[:cap(first)] {
			first[:cap(first)][i] = -1
		}
		if ids := impl.IdsOf(train); !slices.Equal(ids, want) {
			t.Errorf("IdsOf(%v) = %v, and %v before", train, ids, want)
		}
	}
}

// TestNilAndEmptySlicesAreTheSame compares what a train without rows and one without boats are.
func TestNilAndEmptySlicesAreTheSame(t *testing.T) {
	for _, pair := range [][2]impl.Train{
		{up(nil), up([]impl.Boat{})},
		{up(row(1), nil), up(row(1), []impl.Boat{})},
		{{Up: true}, {Up: true, Rows: rows{}}},
		{{}, {Rows: make(rows, 0, 5)}},
	} {
		a, b := pair[0], pair[1]
		if impl.TrainOk(a) || impl.TrainOk(b) || numbers(a) != numbers(b) || impl.FormatTrain(a) != impl.FormatTrain(b) {
			t.Errorf("%v and %v differ", a, b)
		}
	}
}
