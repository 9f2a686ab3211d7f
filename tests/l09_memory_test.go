package tests

import (
	"reflect"
	"slices"
	"testing"

	"loop.example/g03317/impl"
)

// witness knows all memory of arguments, with the spare capacity, and what was there before.
type witness struct{ memory, before []reflect.Value }

// roomyCopy returns the same value with spare capacity behind each of its slices.
func roomyCopy[T any](w *witness, v T) T {
	return w.roomy(reflect.ValueOf(v)).Interface().(T)
}

func (w *witness) roomy(v reflect.Value) reflect.Value {
	result := reflect.New(v.Type()).Elem()
	switch v.Kind() {
	case reflect.Struct:
		for i := range v.NumField() {
			result.Field(i).Set(w.roomy(v.Field(i)))
		}
	case reflect.Slice:
		whole := reflect.MakeSlice(v.Type(), v.Len()+3, v.Len()+3)
		for i := range whole.Len() {
			if i < v.Len() {
				whole.Index(i).Set(w.roomy(v.Index(i)))
			} else {
				whole.Index(i).Set(filled(v.Type().Elem()))
			}
		}
		w.memory, w.before = append(w.memory, whole), append(w.before, copyOfValue(whole))
		result.Set(whole.Slice(0, v.Len()))
	default:
		result.Set(v)
	}
	return result
}

// filled returns a value of a type without zeros.
func filled(kind reflect.Type) reflect.Value {
	v := reflect.New(kind).Elem()
	switch kind.Kind() {
	case reflect.Struct:
		for i := range kind.NumField() {
			v.Field(i).Set(filled(kind.Field(i).Type))
		}
	case reflect.Slice:
		v.Set(reflect.Append(v, filled(kind.Elem())))
	case reflect.Int:
		v.SetInt(77)
	case reflect.Bool:
		v.SetBool(true)
	}
	return v
}

func (w *witness) isUnchanged() bool {
	return slices.EqualFunc(w.memory, w.before, alikeValues)
}

// blocksIn returns the memory of all slices in a value.
func blocksIn(v reflect.Value) []block {
	var blocks []block
	switch v.Kind() {
	case reflect.Struct:
		for i := range v.NumField() {
			blocks = append(blocks, blocksIn(v.Field(i))...)
		}
	case reflect.Slice:
		blocks = append(blocks, blockAt(v.UnsafePointer(), uintptr(v.Cap())*v.Type().Elem().Size()))
		for i := range v.Len() {
			blocks = append(blocks, blocksIn(v.Index(i))...)
		}
	}
	return blocks
}

// overlap looks for two slices with the same memory.
func overlap(blocks []block) bool {
	slices.SortFunc(blocks, func(a block, b block) int { return int(a.from) - int(b.from) })
	for i, b := range blocks {
		if i > 0 && b.touches(blocks[i-1]) {
			return true
		}
	}
	return false
}

// waterwayChanges are the functions that return something new, each with arguments that it accepts or rejects.
func waterwayChanges() map[string]func(x impl.Waterway, train impl.Train) any {
	return map[string]func(x impl.Waterway, train impl.Train) any{
		"NewWaterway": func(x impl.Waterway, _ impl.Train) any {
			y, _ := impl.NewWaterway(x.Reaches, x.Ways, x.Works, x.Tariff)
			return y
		},
		"EnterTrain": func(x impl.Waterway, train impl.Train) any {
			y, _ := impl.EnterTrain(x, train)
			return y
		},
		"SailAll":               func(x impl.Waterway, _ impl.Train) any { return impl.SailAll(x) },
		"PourWater":             func(x impl.Waterway, _ impl.Train) any { return impl.PourWater(x, 60) },
		"PourWater, rejected":   func(x impl.Waterway, _ impl.Train) any { return impl.PourWater(x, -1) },
		"SteerWeirs":            func(x impl.Waterway, _ impl.Train) any { return impl.SteerWeirs(x, 60) },
		"SteerWeirs, rejected":  func(x impl.Waterway, _ impl.Train) any { return impl.SteerWeirs(x, -1) },
		"AbleCalls":             func(x impl.Waterway, _ impl.Train) any { return impl.AbleCalls(x, 0) },
		"AbleCalls, rejected":   func(x impl.Waterway, _ impl.Train) any { return impl.AbleCalls(x, -1) },
		"WorkLock":              func(x impl.Waterway, _ impl.Train) any { return impl.WorkLock(x, 0) },
		"WorkLock of another":   func(x impl.Waterway, _ impl.Train) any { return impl.WorkLock(x, 1) },
		"WorkLock, rejected":    func(x impl.Waterway, _ impl.Train) any { return impl.WorkLock(x, 99) },
		"StepWaterway":          func(x impl.Waterway, _ impl.Train) any { return impl.StepWaterway(x, 60) },
		"StepWaterway, reject":  func(x impl.Waterway, _ impl.Train) any { return impl.StepWaterway(x, -1) },
		"RunWaterway":           func(x impl.Waterway, _ impl.Train) any { return impl.RunWaterway(x, 60, 30) },
		"RunWaterway, no step":  func(x impl.Waterway, _ impl.Train) any { return impl.RunWaterway(x, 60, 0) },
		"RunWaterway, rejected": func(x impl.Waterway, _ impl.Train) any { return impl.RunWaterway(x, 60, -1) },
		"PlacesOf":              func(x impl.Waterway, _ impl.Train) any { return impl.PlacesOf(x) },
		"no change": func(x impl.Waterway, _ impl.Train) any {
			for _, w := range x.Works {
				impl.WorkOk(w)
			}
			impl.WaterOf(x)
			return []bool{impl.WaterwayOk(x), impl.WaterKept(x), impl.BoatsOnce(x), impl.TollsTrue(x), impl.LedgerOk(x)}
		},
	}
}

// givenWaterways have all cases of locks, nothing in their lists, or one thing too much.
func givenWaterways() []impl.Waterway {
	list := []impl.Waterway{begun(), crossing(), sailing(nil, nil, nil), atLock(impl.GateBelow, callsOf(up(row(21)), down(row(22)), up(row(23))))}
	for gate := range 3 {
		list = append(list, atLock(gate, callsOf(up(row(21), row(22)), down(row(23))), down(row(24), row(25)), up(row(26))), atLock(gate, callsOf(down(row(23)), up(row(21)))))
	}
	list = append(list,
		plainWith(func(x *impl.Waterway) {
			x.Arrived = slices.Repeat(x.Arrived[:1], 500)
			x.Movers[0] = []impl.Mover{goes(up(row(1)), 0)}
		}),
		plainWith(func(x *impl.Waterway) {
			x.Movers[2] = slices.Repeat([]impl.Mover{goes(up(row(1)), 0)}, 24)
			x.Works[0].Calls = calls(24)
		}),
		plainWith(func(x *impl.Waterway) {
			x.Book = bookOf(2000)
			x.Passings = slices.Repeat(x.Passings[:1], 500)
			x.Works[1].Lock.Gate = 2
		}),
		plainWith(func(x *impl.Waterway) {
			x.Passings = slices.Repeat(x.Passings[:1], 500)
			*x = with(*x, func(x *impl.Waterway) { x.Works[0].Lock.Gate = 2 })
		}),
	)
	short := func(x impl.Waterway) bool {
		return len(x.Works)+len(x.Movers)+len(x.Arrived)+len(x.Book)+len(x.Entered)+len(x.Passings) < 50000
	}
	for _, x := range slices.Concat(validWaterways(), invalidWaterways()) {
		if short(x) {
			list = append(list, x)
		}
	}
	return list
}

func TestWaterwaysAreNotChanged(t *testing.T) {
	t.Parallel()
	for name, change := range waterwayChanges() {
		for _, given := range givenWaterways() {
			for _, from := range []impl.Train{up(row(31, 32), row(33)), down(row(34)), up(row(5)), {Rows: rows{nil, row(35)}}} {
				w := &witness{}
				x, train := roomyCopy(w, given), roomyCopy(w, from)
				change(x, train)
				if !w.isUnchanged() || !alike(x, given) || !alike(train, from) {
					t.Errorf("%s changes %v or %s", name, from, differing(x, given))
				}
			}
		}
	}
}

func TestWaterwaysShareNoMemory(t *testing.T) {
	t.Parallel()
	for name, change := range waterwayChanges() {
		for _, given := range givenWaterways() {
			for _, from := range []impl.Train{up(row(31, 32), row(33)), down(row(34)), up(row(5))} {
				w := &witness{}
				x, train := roomyCopy(w, given), roomyCopy(w, from)
				blocks := slices.Concat(blocksIn(reflect.ValueOf(x)), blocksIn(reflect.ValueOf(train)), blocksIn(reflect.ValueOf(change(x, train))))
				if overlap(slices.DeleteFunc(blocks, func(b block) bool { return b.size == 0 })) {
					t.Errorf("%s shares memory: %s", name, briefly(given))
				}
			}
		}
	}
}

// TestSharedPartsAreNotHandedOn has the same memory at many places of the argument.
func TestSharedPartsAreNotHandedOn(t *testing.T) {
	train := up(row(1, 2), row(3))
	table := lake(0).Table
	for gate := range 3 {
		x := plainWaterway()
		for k := range x.Reaches {
			x.Reaches[k] = impl.Reach{Table: table, Volume: 200, Pipe: x.Entered[:0]}
			x.Movers[k] = []impl.Mover{goes(train, 0), goes(train, 5), goes(train, 20)}
		}
		for k := range x.Works {
			x.Works[k].Calls = []impl.Call{calling(train), calling(down(train.Rows...)), calling(train)}
			x.Works[k].Pauses, x.Works[k].Lock.Gate = nil, gate
			if gate == 0 {
				x.Works[k].Lock.Inside = []impl.Train{train}
			}
		}
		x.Arrived, x.Passings = []impl.Train{train, train}, []impl.Passing{{Train: train}, {Train: train}}
		x.Tariff.Weights = x.Tariff.PerClass
		for name, change := range waterwayChanges() {
			for _, other := range []impl.Train{up(row(31)), train} {
				given := slices.Concat(blocksIn(reflect.ValueOf(x)), blocksIn(reflect.ValueOf(other)))
				result := blocksIn(reflect.ValueOf(change(x, other)))
				result = slices.DeleteFunc(result, func(b block) bool { return b.size == 0 })
				if slices.ContainsFunc(result, func(b block) bool { return slices.ContainsFunc(given, b.touches) }) || overlap(result) {
					t.Errorf("%s hands shared memory on", name)
				}
			}
		}
	}
}

// TestWaterwaysAreContinuedTwice lets different trains come to one result.
func TestWaterwaysAreContinuedTwice(t *testing.T) {
	for _, x := range []impl.Waterway{impl.RunWaterway(plainWaterway(), 60, 9), impl.SailAll(plainWaterway()), impl.WorkLock(plainWaterway(), 0), begun()} {
		before := copied(x)
		a, _ := impl.EnterTrain(x, up(row(31)))
		b, _ := impl.EnterTrain(x, up(row(32)))
		run := impl.RunWaterway(a, 60, 30)
		if !alike(x, before) || !alike(b, with(x, func(x *impl.Waterway) {
			x.Movers[2], x.Entered = append(x.Movers[2], goes(up(row(32)), 20)), append(x.Entered, 32)
		})) {
			t.Errorf("another train comes: %s", differing(b, x))
		}
		if again, _ := impl.EnterTrain(x, up(row(31))); !alike(a, again) || !alike(run, impl.RunWaterway(again, 60, 30)) {
			t.Errorf("the same train comes again: %s", differing(a, again))
		}
	}
}

func TestNilAndEmptySlicesInWaterways(t *testing.T) {
	x := begun()
	y := with(x, func(y *impl.Waterway) {
		y.Movers = [][]impl.Mover{{}, {}, {}}
		y.Arrived, y.Entered, y.Book, y.Passings = []impl.Train{}, []int{}, book{}, []impl.Passing{}
		y.Reaches[0].Pipe = []int{}
		for k := range y.Works {
			y.Works[k].Calls, y.Works[k].Lock.Inside = []impl.Call{}, []impl.Train{}
		}
	})
	if !impl.WaterwayOk(x) || !impl.WaterwayOk(y) || !impl.LedgerOk(x) || !impl.LedgerOk(y) || len(impl.PlacesOf(y)) != 0 {
		t.Errorf("empty lists are not valid")
	}
	if a, b := impl.RunWaterway(x, 60, 9), impl.RunWaterway(y, 60, 9); !alike(a, b) {
		t.Errorf("empty lists make a difference: %s", differing(a, b))
	}
	for _, k := range []int{0, 1} {
		if a, b := impl.AbleCalls(x, k), impl.AbleCalls(y, k); len(a) != 0 || len(b) != 0 {
			t.Errorf("AbleCalls = %v and %v", a, b)
		}
	}
	if empty := (impl.Waterway{Reaches: []impl.Reach{}, Movers: [][]impl.Mover{}, Works: []impl.Work{}}); impl.WaterwayOk(empty) || !impl.BoatsOnce(empty) || !impl.TollsTrue(empty) || impl.WaterKept(empty) {
		t.Errorf("an empty waterway is valid, or its ledger is not true")
	}
}
