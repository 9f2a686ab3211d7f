package tests

import (
	"math/rand"
	"slices"
	"testing"

	"loop.example/g03317/impl"
)

// pilot performs one operation after the other on a waterway, and watches all water, boats and coins.
type pilot struct {
	t    *testing.T
	x    impl.Waterway
	next int
	seen map[string]int
}

func newPilot(t *testing.T, reaches []impl.Reach, ways []impl.Way, works []impl.Work, f impl.Tariff) *pilot {
	x, ok := impl.NewWaterway(reaches, ways, works, f)
	if !ok || x.Start != naiveWater(x) {
		t.Fatalf("no waterway begins with %+v, %+v and %+v", reaches, ways, works)
	}
	return &pilot{t: t, x: x, next: 1, seen: map[string]int{}}
}

func (p *pilot) enter(train impl.Train) {
	y, ok := impl.EnterTrain(p.x, train)
	if ok {
		p.next += len(impl.IdsOf(train))
		p.seen["come"]++
	}
	p.goOn("EnterTrain", y)
}

// goOn looks at the ledger by its own means before it is asked for.
func (p *pilot) goOn(name string, y impl.Waterway) {
	p.t.Helper()
	places := naivePlaces(y)
	slices.Sort(places)
	entered := slices.Sorted(slices.Values(y.Entered))
	if naiveWater(y)+y.Out != y.Start+y.In {
		p.t.Fatalf("%s: water is lost: %s", name, differing(y, p.x))
	}
	if !slices.Equal(places, entered) || len(slices.Compact(slices.Clone(places))) != len(places) {
		p.t.Fatalf("%s: of %v, %v are there: %s", name, entered, places, differing(y, p.x))
	}
	var list book
	for _, passing := range y.Passings {
		list = append(list, naiveEntries(y.Tariff, passing.Train, passing.Time)...)
	}
	if !slices.Equal(list, y.Book) {
		p.t.Fatalf("%s: the book is not that of the passings: %s", name, differing(y, p.x))
	}
	if !impl.WaterwayOk(y) || !impl.WaterKept(y) || !impl.BoatsOnce(y) || !impl.TollsTrue(y) || !impl.LedgerOk(y) || impl.WaterOf(y) != naiveWater(y) {
		p.t.Fatalf("%s: the ledger is not true: %s", name, differing(y, p.x))
	}
	p.x = y
}

// step performs what StepWaterway does, one operation after the other.
func (p *pilot) step(inflow int) {
	whole := impl.StepWaterway(p.x, inflow)
	before := p.x
	p.goOn("PourWater", impl.PourWater(p.x, inflow))
	p.goOn("SteerWeirs", impl.SteerWeirs(p.x, inflow))
	if p.x.Out > before.Out {
		p.seen["left"]++
	}
	p.sail()
	for k := range p.x.Works {
		p.work(k)
	}
	if !alike(whole, p.x) || p.x.In != before.In+inflow || p.x.Time != before.Time+1 {
		p.t.Fatalf("StepWaterway: %s", differing(whole, p.x))
	}
}

// sail looks who has moved, how far, and in which depth.
func (p *pilot) sail() {
	y := impl.SailAll(p.x)
	for k, list := range p.x.Movers {
		depth := impl.LevelOf(p.x.Reaches[k]) - p.x.Ways[k].Bed
		for _, m := range list {
			n := naiveNumbers(m.Train)
			// From the end at which it leaves the reach, or where it still is.
			place := p.x.Ways[k].Length
			if m.Train.Up {
				place = 0
			}
			for _, after := range y.Movers[k] {
				if alike(after.Train, m.Train) {
					place = after.Place
				}
			}
			way := place - m.Place
			if m.Train.Up {
				way = -way
			}
			if way < 0 || way > n.speed || way > 0 && depth < n.draught {
				p.t.Fatalf("%v goes %d on in the depth %d", m, way, depth)
			}
			if depth < n.draught {
				p.seen["grounded"]++
			}
		}
	}
	p.seen["arrived"] += len(y.Arrived) - len(p.x.Arrived)
	p.goOn("SailAll", y)
}

// work looks who passes a gate, in which depth, and whether there is room.
func (p *pilot) work(k int) {
	x, y := p.x, impl.WorkLock(p.x, k)
	before, after := x.Works[k], y.Works[k]
	side, sill := k, before.Lock.SillAbove
	if before.Lock.Gate == impl.GateBelow {
		side, sill = k+1, before.Lock.SillBelow
	}
	depth := impl.LevelOf(x.Reaches[side]) - sill
	passes := func(train impl.Train) {
		if before.Lock.Gate == impl.GateShut || naiveNumbers(train).draught > depth {
			p.t.Fatalf("%v passes the gate %d in the depth %d", train, before.Lock.Gate, depth)
		}
	}
	for i, train := range after.Lock.Inside[:max(0, len(after.Lock.Inside)-len(before.Lock.Inside))] {
		passes(train)
		passing := impl.Passing{Time: x.Time, Work: k, Train: train}
		if !alike(y.Passings[len(x.Passings)+i], passing) || !naiveOpen(before.Pauses, x.Time) || train.Up != (before.Lock.Gate == impl.GateBelow) || after.Turn.Up != train.Up {
			p.t.Fatalf("%v enters, with the passings %v", train, y.Passings[len(x.Passings):])
		}
		p.seen["entered"]++
	}
	// Those who stay when one leaves do not lie down again.
	if len(after.Lock.Inside) > len(before.Lock.Inside) && !naiveFits(after.Lock, after.Lock.Inside) {
		p.t.Fatalf("there is no room for %v", after.Lock.Inside)
	}
	if len(after.Lock.Inside) < len(before.Lock.Inside) {
		gone := y.Movers[side][len(x.Movers[side])]
		passes(gone.Train)
		if gone.Train.Up != (before.Lock.Gate == impl.GateAbove) || gone.Train.Up && gone.Place != x.Ways[side].Length || !gone.Train.Up && gone.Place != 0 {
			p.t.Fatalf("%+v has left by the gate %d", gone, before.Lock.Gate)
		}
		p.seen["gone"]++
	}
	if after.Lock.Gate != impl.GateShut && after.Lock.Gate != before.Lock.Gate {
		p.seen["opened"]++
	}
	p.goOn("WorkLock", y)
}

// TestTheLedgerIsTrueAtEveryTime has trains come to random waterways, at random times, with random water.
func TestTheLedgerIsTrueAtEveryTime(t *testing.T) {
	t.Parallel()
	rnd := rand.New(rand.NewSource(97))
	seen := map[string]int{}
	for range 30 {
		reaches, ways, works := randomParts(rnd)
		p := newPilot(t, reaches, ways, works, randomTariff(rnd))
		inflow := []int{0, 1, 20, 200}[rnd.Intn(4)]
		for range 80 {
			if rnd.Intn(4) == 0 {
				p.enter(barge(rnd, p.next))
			}
			if rnd.Intn(10) == 0 {
				// A boat that has come, or none.
				p.enter(barge(rnd, max(0, p.next-2)))
			}
			p.step(inflow)
		}
		for what, count := range p.seen {
			seen[what] += count
		}
	}
	for _, what := range []string{"come", "left", "grounded", "arrived", "entered", "gone", "opened"} {
		if seen[what] < 100 {
			t.Errorf("%v happened", seen)
		}
	}
}

// ampleParts have depth, room and water for every barge.
func ampleParts(rnd *rand.Rand) ([]impl.Reach, []impl.Way, []impl.Work) {
	reaches, ways, works := randomParts(rnd)
	for k := range reaches {
		bed := ways[k].Bed
		reaches[k], _ = impl.NewReach(points{{X: bed, Y: 0}, {X: bed + 100, Y: 1000000}}, bed+20+rnd.Intn(20), rnd.Intn(4))
		if k > 0 {
			l := &works[k-1].Lock
			l.Length, l.Width, l.Rate = 80+rnd.Intn(80), 24+rnd.Intn(20), 20+rnd.Intn(200)
			works[k-1].Weir.Crest = ways[k-1].Bed + 90
		}
	}
	return reaches, ways, works
}

// TestEveryTrainArrives has enough of all.
func TestEveryTrainArrives(t *testing.T) {
	t.Parallel()
	rnd := rand.New(rand.NewSource(98))
	for range 25 {
		reaches, ways, works := ampleParts(rnd)
		x, _ := impl.NewWaterway(reaches, ways, works, randomTariff(rnd))
		first, trains := 1, 0
		for range 40 {
			train := barge(rnd, first)
			y, ok := impl.EnterTrain(x, train)
			if ok {
				first += 3
				trains++
			}
			x = impl.RunWaterway(y, 3, rnd.Intn(20))
		}
		x = impl.RunWaterway(x, 3, 2000)
		if trains < 30 || len(x.Arrived) != trains || !impl.LedgerOk(x) {
			t.Fatalf("of %d trains %d have arrived: %+v, %+v", trains, len(x.Arrived), x.Movers, x.Works)
		}
		passings := map[int]int{}
		for _, p := range x.Passings {
			passings[impl.IdsOf(p.Train)[0]]++
		}
		for _, train := range x.Arrived {
			// Each of them has passed every lock once.
			if id := impl.IdsOf(train)[0]; passings[id] != len(works) {
				t.Fatalf("%v has passed %d times, with %d works", train, passings[id], len(works))
			}
		}
	}
}

// TestWaterBringsTrainsAfloat has a train stand still until water comes.
func TestWaterBringsTrainsAfloat(t *testing.T) {
	reaches, ways, works := plainParts()
	reaches[0] = lake(610)
	x, _ := impl.NewWaterway(reaches, ways, works, plainTariff())
	x, _ = impl.EnterTrain(x, down(row(1)))
	dry := impl.RunWaterway(x, 0, 100)
	wet := impl.RunWaterway(dry, 5, 200)
	if dry.Movers[0][0].Place != 0 || len(wet.Arrived) != 1 || !impl.LedgerOk(dry) || !impl.LedgerOk(wet) || wet.In != 1000 {
		t.Errorf("without water it is at %d, then %s", dry.Movers[0][0].Place, differing(wet, dry))
	}
}

// TestLedgersAtTheLimits goes on where lists are full; the ledger is true as long as what comes is rejected as a whole.
func TestLedgersAtTheLimits(t *testing.T) {
	t.Parallel()
	x := crossing()
	x.Movers[1] = nil
	x.Entered = nil
	// More trains than passings or arrivals can be noted.
	first := 1
	for range 700 {
		train := up([]impl.Boat{{Id: first, Length: 30, Width: 6, Draught: 8, Speed: 10}})
		if y, ok := impl.EnterTrain(x, train); ok {
			first++
			x = y
		}
		x = impl.RunWaterway(x, 0, 6)
		if !impl.LedgerOk(x) {
			t.Fatalf("at %d, after %d trains, the ledger is not true", x.Time, first-1)
		}
	}
	if len(x.Passings) != 500 || len(x.Arrived) != 500 || len(x.Book) != 1000 || len(x.Works[0].Calls) != impl.MaxCalls || len(x.Movers[1]) != impl.MaxCalls || len(x.Entered) != 500+2*impl.MaxCalls {
		t.Errorf("%d have passed, %d have arrived, and %d have come", len(x.Passings), len(x.Arrived), len(x.Entered))
	}
}
