package tests

import (
	"slices"
	"testing"

	"loop.example/g03317/impl"
)

// outcome is what a function of chapter 5 returns.
type outcome struct {
	lock  impl.Lock
	reach impl.Reach
	train impl.Train
	best  []int
}

func (o outcome) blocks() []block {
	return slices.Concat(blocksOfLock(o.lock), blocksOf(o.reach), blocksOfTrain(o.train), []block{blockOf(o.best)})
}

func blocksOfLock(l impl.Lock) []block {
	blocks := []block{blockOf(l.Inside)}
	for _, train := range l.Inside {
		blocks = append(blocks, blocksOfTrain(train)...)
	}
	return blocks
}

// lockChanges are the functions that return something new, each with arguments that it accepts or rejects.
func lockChanges() map[string]func(l impl.Lock, r impl.Reach, train impl.Train) outcome {
	type given = func(l impl.Lock, r impl.Reach, train impl.Train) outcome
	flow := func(l impl.Lock, r impl.Reach) outcome { return outcome{lock: l, reach: r} }
	gate := func(l impl.Lock, _ bool) outcome { return outcome{lock: l} }
	leave := func(l impl.Lock, train impl.Train, _ bool) outcome { return outcome{lock: l, train: train} }
	return map[string]given{
		"FillLock":  func(l impl.Lock, r impl.Reach, _ impl.Train) outcome { return flow(impl.FillLock(l, r)) },
		"DrainLock": func(l impl.Lock, r impl.Reach, _ impl.Train) outcome { return flow(impl.DrainLock(l, r)) },
		"OpenGate above": func(l impl.Lock, r impl.Reach, _ impl.Train) outcome {
			return gate(impl.OpenGate(l, r, r, impl.GateAbove))
		},
		"OpenGate below": func(l impl.Lock, r impl.Reach, _ impl.Train) outcome {
			return gate(impl.OpenGate(l, r, r, impl.GateBelow))
		},
		"OpenGate, rejected": func(l impl.Lock, r impl.Reach, _ impl.Train) outcome { return gate(impl.OpenGate(l, r, r, 3)) },
		"ShutGate":           func(l impl.Lock, _ impl.Reach, _ impl.Train) outcome { return outcome{lock: impl.ShutGate(l)} },
		"EnterLock":          func(l impl.Lock, r impl.Reach, train impl.Train) outcome { return gate(impl.EnterLock(l, r, train)) },
		"LeaveLock":          func(l impl.Lock, r impl.Reach, _ impl.Train) outcome { return leave(impl.LeaveLock(l, r)) },
		"BestEntry": func(l impl.Lock, _ impl.Reach, train impl.Train) outcome {
			return outcome{best: impl.BestEntry(l, append(slices.Clip(l.Inside), train, train))}
		},
		"no change": func(l impl.Lock, r impl.Reach, train impl.Train) outcome {
			impl.LockOk(l)
			impl.ChamberLevel(l)
			impl.FitsChamber(l, l.Inside)
			impl.MayEnter(l, r, train)
			return outcome{}
		},
	}
}

// givenLocks have trains of all kinds, but seldom more than MaxQueue.
func givenLocks() []impl.Lock {
	badBoat := plainBoat(5)
	badBoat.Width = 0
	insides := [][]impl.Train{
		nil,
		{up(row(1))},
		{down(row(1))},
		{up(row(1)), down(row(2, 3)), up(row(4), row(5, 6))},
		{down(row(1, 2), row(3)), up(row(4)), down(row(5)), up(row(6))},
		numbered(impl.MaxQueue),
		// These are not valid.
		numbered(impl.MaxQueue + 1),
		{up(row(1)), up(row(1))},
		{up(row(1)), {}},
		{up(row(1), nil, row(2)), down(nil)},
		{up(row(1, 2, 3, 4, 5, 6, 7)), down(row(8))},
		{down([]impl.Boat{badBoat, plainBoat(6)}, row(7))},
	}
	var list []impl.Lock
	for _, inside := range insides {
		for gate := range 4 {
			list = append(list, withGate(plainLock(inside...), gate))
		}
	}
	return append(list, withWater(plainLock(insides[3]...), impl.MaxAmount), withWater(plainLock(insides[3]...), -1))
}

// kept is an argument with all that lies behind it, and what this was before.
type kept struct {
	trains, trainsBefore []impl.Train
	lists, listsBefore   []rows
	boats, boatsBefore   [][]impl.Boat
}

func (k *kept) roomy(train impl.Train) impl.Train {
	copied, list, boats := roomyTrain(train)
	k.lists, k.listsBefore = append(k.lists, list), append(k.listsBefore, slices.Clone(list))
	k.boats, k.boatsBefore = append(k.boats, boats), append(k.boatsBefore, slices.Clone(boats))
	return copied
}

// roomyLock returns the same lock, with other trains behind those inside.
func (k *kept) roomyLock(l impl.Lock) impl.Lock {
	count := len(l.Inside)
	for _, train := range append(slices.Clip(l.Inside), singles(97, 98)...) {
		k.trains = append(k.trains, k.roomy(train))
	}
	k.trainsBefore = slices.Clone(k.trains)
	l.Inside = k.trains[:count]
	return l
}

func (k *kept) isUnchanged() bool {
	sameList := func(a rows, b rows) bool { return slices.EqualFunc(a, b, sameRow) }
	sameRows := func(a impl.Train, b impl.Train) bool { return a.Up == b.Up && blockOf(a.Rows) == blockOf(b.Rows) }
	return slices.EqualFunc(k.trains, k.trainsBefore, sameRows) && slices.EqualFunc(k.lists, k.listsBefore, sameList) &&
		slices.EqualFunc(k.boats, k.boatsBefore, slices.Equal)
}

func reachesAtLocks() []impl.Reach {
	// The last valid ones are above any chamber, and without space for what comes out of one.
	return []impl.Reach{at(90), at(50), at(0), lake(499, 1, 2), lake(800, 3), at(impl.MaxLevel + 2), lake(0, impl.MaxAmount), {}}
}

func trainsAtLocks() []impl.Train {
	return []impl.Train{up(row(201)), down(row(202, 203), row(204)), up(row(1)), {}}
}

func TestLocksAreNotChanged(t *testing.T) {
	for name, change := range lockChanges() {
		for _, given := range givenLocks() {
			for _, from := range reachesAtLocks() {
				for _, train := range trainsAtLocks() {
					k := &kept{}
					l := k.roomyLock(given)
					r, table, pipe := roomy(from)
					tableBefore, pipeBefore := slices.Clone(table), slices.Clone(pipe)
					change(l, r, k.roomy(train))
					if !k.isUnchanged() || !slices.Equal(table, tableBefore) || !slices.Equal(pipe, pipeBefore) {
						t.Errorf("%s changes %s, %v or %v", name, briefLock(given), from, train)
					}
				}
			}
		}
	}
}

func TestLocksShareNoMemory(t *testing.T) {
	for name, change := range lockChanges() {
		for _, given := range givenLocks() {
			for _, from := range reachesAtLocks() {
				for _, other := range trainsAtLocks() {
					k := &kept{}
					l, train := k.roomyLock(given), k.roomy(other)
					r, _, _ := roomy(from)
					blocks := slices.Concat(blocksOfLock(l), blocksOf(r), blocksOfTrain(train))
					checkBlocks(t, name, change(l, r, train), blocks)
				}
			}
		}
	}
}

// checkBlocks looks for memory of a result that is also that of something else.
func checkBlocks(t *testing.T, name string, o outcome, blocks []block) {
	for _, b := range o.blocks() {
		if slices.ContainsFunc(blocks, b.touches) {
			t.Errorf("%s: a result shares memory: %s, %.120v, %s", name, briefLock(o.lock), o.reach, brief(o.train))
			return
		}
		blocks = append(blocks, b)
	}
}

// TestSharedMemoryIsNotHandedOn has the same train at several places of the arguments.
func TestSharedMemoryIsNotHandedOn(t *testing.T) {
	train := up(row(1, 2), row(3))
	whole := row(1, 2, 3, 4)
	parts := up(whole[:2], whole[2:3], whole[3:])
	for name, change := range lockChanges() {
		for _, l := range []impl.Lock{plainLock(train), plainLock(train, train), plainLock(train, down(row(7)), train), plainLock(parts), plainLock(parts, parts)} {
			for gate := range 3 {
				open := withGate(l, gate)
				for _, r := range reachesAtLocks() {
					blocks := slices.Concat(blocksOfLock(open), blocksOf(r))
					checkBlocks(t, name, change(open, r, train), blocks)
					checkBlocks(t, name, change(open, r, up(whole[1:2])), blocks)
				}
			}
		}
	}
}

// TestNothingLiesBehindResults looks into the spare capacity behind the trains that are left.
func TestNothingLiesBehindResults(t *testing.T) {
	l := withGate(plainLock(up(row(1)), up(row(2)), up(row(3))), impl.GateAbove)
	left, gone, ok := impl.LeaveLock(l, at(90))
	for _, behind := range left.Inside[len(left.Inside):cap(left.Inside)] {
		if !isZeroTrain(behind) {
			t.Errorf("%v is still behind %v", behind, left.Inside)
		}
	}
	if !ok || !sameTrain(gone, up(row(1))) || !sameTrains(left.Inside, []impl.Train{up(row(2)), up(row(3))}) {
		t.Errorf("%v has left %s", gone, briefLock(left))
	}
}

func TestEntriesAreNewEachTime(t *testing.T) {
	queue := []impl.Train{sized(10, 5, 1), sized(10, 5, 2), sized(10, 5, 3)}
	first := impl.BestEntry(chamber(20, 10), queue)
	for i := range first {
		first[i] = -1
	}
	if best := impl.BestEntry(chamber(20, 10), queue); !slices.Equal(best, []int{0, 1, 2}) {
		t.Errorf("BestEntry = %v", best)
	}
}

// TestNilAndEmptySlicesAtLocks compares what a lock without trains, a train without rows and a row without boats are.
func TestNilAndEmptySlicesAtLocks(t *testing.T) {
	empty := plainLock()
	empty.Inside = []impl.Train{}
	for _, l := range []impl.Lock{plainLock(), empty} {
		if !impl.LockOk(l) || impl.ChamberLevel(l) != 50 || !impl.FitsChamber(l, l.Inside) || len(impl.BestEntry(l, l.Inside)) != 0 {
			t.Errorf("%#v is not the same lock", l)
		}
		entered, ok := impl.EnterLock(withGate(l, impl.GateBelow), at(90), up(row(1)))
		if !ok || !sameLock(entered, withGate(plainLock(up(row(1))), impl.GateBelow)) {
			t.Errorf("%#v is not the same lock", entered)
		}
	}
	for _, bad := range []impl.Train{{}, {Rows: rows{}}, {Rows: rows{nil}}, {Rows: rows{{}}}} {
		l := plainLock(up(row(1)), bad)
		if impl.LockOk(l) || impl.FitsChamber(l, l.Inside) || !sameLock(impl.ShutGate(l), l) {
			t.Errorf("%s is a lock", briefLock(l))
		}
	}
}
