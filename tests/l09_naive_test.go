package tests

import (
	"slices"

	"loop.example/g03317/impl"
)

// The functions of this file follow the text of chapter 9, and ask after each operation whether the whole waterway is valid.

func naiveWorkOk(w impl.Work) bool {
	for _, c := range w.Calls {
		if !impl.CallOk(c) {
			return false
		}
	}
	return impl.LockOk(w.Lock) && impl.WeirOk(w.Weir) && impl.RuleOk(w.Rule) && impl.PausesOk(w.Pauses) && impl.TurnOk(w.Turn) && len(w.Calls) <= 24
}

func naiveOk(x impl.Waterway) bool {
	count := len(x.Reaches)
	if count < 2 || len(x.Ways) != count || len(x.Movers) != count || len(x.Works) != count-1 {
		return false
	}
	ok := impl.RiverOk(x.Reaches) && impl.TariffOk(x.Tariff) && impl.BookOk(x.Book)
	for _, time := range append([]int{x.Time}, timesOf(x.Passings)...) {
		ok = ok && time >= 0 && time <= 1000000
	}
	for _, amount := range []int{x.Start, x.In, x.Out} {
		ok = ok && amount >= 0 && amount <= 1000000000
	}
	for k := range x.Reaches {
		ok = ok && impl.WayOk(x.Ways[k]) && len(x.Movers[k]) <= 24
		for _, m := range x.Movers[k] {
			ok = ok && impl.MoverOk(m, x.Ways[k])
		}
	}
	for _, w := range x.Works {
		ok = ok && naiveWorkOk(w)
	}
	for _, train := range x.Arrived {
		ok = ok && impl.TrainOk(train)
	}
	for _, id := range x.Entered {
		ok = ok && id >= 1 && id <= 9999
	}
	for _, p := range x.Passings {
		ok = ok && p.Work >= 0 && p.Work < len(x.Works) && impl.TrainOk(p.Train)
	}
	return ok && len(x.Arrived) <= 500 && len(x.Entered) <= 2000 && len(x.Passings) <= 500
}

func timesOf(list []impl.Passing) []int {
	var times []int
	for _, p := range list {
		times = append(times, p.Time)
	}
	return times
}

// naiveWater adds all water, also where the waterway is not valid.
func naiveWater(x impl.Waterway) int {
	sum := 0
	for _, r := range x.Reaches {
		sum += r.Volume
		for _, part := range r.Pipe {
			sum += part
		}
	}
	for _, w := range x.Works {
		sum += w.Lock.Water
	}
	return sum
}

func naiveCome(x impl.Waterway, train impl.Train) (impl.Waterway, bool) {
	y := copied(x)
	if !naiveOk(x) {
		return y, false
	}
	m, k := impl.Mover{Train: copied(train)}, 0
	if train.Up {
		k = len(x.Reaches) - 1
		m.Place = x.Ways[k].Length
	}
	y.Movers[k] = append(y.Movers[k], m)
	for _, id := range impl.IdsOf(train) {
		if slices.Contains(x.Entered, id) {
			return copied(x), false
		}
		y.Entered = append(y.Entered, id)
	}
	if !naiveOk(y) {
		return copied(x), false
	}
	return y, true
}

func naivePour(x impl.Waterway, inflow int) impl.Waterway {
	y := copied(x)
	if !naiveOk(x) || x.Time == 1000000 || inflow < 0 {
		return y
	}
	y.Time++
	if inflow <= 1000000000-x.Start-x.In {
		y.Reaches[0] = impl.SendTo(y.Reaches[0], inflow)
		y.In += inflow
	}
	for k := range y.Reaches {
		y.Reaches[k] = impl.FlowIn(y.Reaches[k])
	}
	return y
}

func naiveSteer(x impl.Waterway, inflow int) impl.Waterway {
	y := copied(x)
	if !naiveOk(x) || inflow < 0 || inflow > 1000000000 {
		return y
	}
	var w impl.Weir
	last := len(y.Reaches) - 1
	for k := range last {
		a, b := y.Reaches[k], y.Reaches[k+1]
		w = impl.SteerWeir(y.Works[k].Weir, y.Works[k].Rule, impl.LevelOf(a), impl.LevelOf(b), inflow)
		y.Works[k].Weir = w
		y.Reaches[k], y.Reaches[k+1], _ = impl.LetThrough(a, b, w)
	}
	flow := impl.GateFlow(w, impl.LevelOf(y.Reaches[last]), 0)
	r, taken := impl.TakeOff(y.Reaches[last], flow, impl.ValueAt(y.Reaches[last].Table, y.Ways[last].Bed))
	y.Reaches[last] = r
	y.Out += taken
	return y
}

// naiveSail has all trains sail before one of them leaves its reach.
func naiveSail(x impl.Waterway) impl.Waterway {
	y := copied(x)
	if !naiveOk(x) {
		return y
	}
	for k := range y.Movers {
		for i := range y.Movers[k] {
			y.Movers[k][i] = impl.MoveOne(y.Movers[k][i], y.Ways[k], y.Reaches[k])
		}
	}
	last := len(y.Reaches) - 1
	for k := range y.Movers {
		var stay []impl.Mover
		for _, m := range y.Movers[k] {
			switch bound := m.Train.Up; {
			case !impl.AtEnd(m, y.Ways[k]):
				stay = append(stay, m)
			case bound && k == 0, !bound && k == last:
				y.Arrived = append(y.Arrived, m.Train)
			case bound && len(y.Works[k-1].Calls) < 24:
				y.Works[k-1].Calls = append(y.Works[k-1].Calls, impl.Call{Train: m.Train, Since: y.Time, Booked: -1})
			case !bound && len(y.Works[k].Calls) < 24:
				y.Works[k].Calls = append(y.Works[k].Calls, impl.Call{Train: m.Train, Since: y.Time, Booked: -1})
			default:
				stay = append(stay, m)
			}
		}
		y.Movers[k] = stay
	}
	if !naiveOk(y) {
		return copied(x)
	}
	return y
}

func naiveAble(x impl.Waterway, k int) []impl.Call {
	var able []impl.Call
	if !naiveOk(x) || k < 0 || k >= len(x.Works) {
		return nil
	}
	l := x.Works[k].Lock
	for _, c := range x.Works[k].Calls {
		depth := impl.LevelOf(x.Reaches[k]) - l.SillAbove
		if c.Train.Up {
			depth = impl.LevelOf(x.Reaches[k+1]) - l.SillBelow
		}
		if n := naiveNumbers(c.Train); n.length <= l.Length && n.width <= l.Width && n.draught <= depth {
			able = append(able, copied(c))
		}
	}
	return able
}

func naiveWork(x impl.Waterway, k int) impl.Waterway {
	y := copied(x)
	if !naiveOk(x) || k < 0 || k >= len(x.Works) {
		return y
	}
	naiveAct(&y, k)
	if !naiveOk(y) {
		return copied(x)
	}
	return y
}

// naiveAct returns the number of the case.
func naiveAct(y *impl.Waterway, k int) int {
	w := &y.Works[k]
	inside := len(w.Lock.Inside) > 0
	next, any := impl.NextSide(naiveAble(*y, k), w.Turn, y.Time)
	if w.Lock.Gate == impl.GateShut {
		if !inside && !any {
			return 5
		}
		naiveLevel(y, k, inside && w.Lock.Inside[0].Up || !inside && !next)
		return 4
	}
	side, place, direction := k, y.Ways[k].Length, false
	if w.Lock.Gate == impl.GateBelow {
		side, place, direction = k+1, 0, true
	}
	if lock, gone, ok := impl.LeaveLock(w.Lock, y.Reaches[side]); ok {
		w.Lock = lock
		y.Movers[side] = append(y.Movers[side], impl.Mover{Train: gone, Place: place})
		return 1
	}
	if !inside && impl.IsOpen(w.Pauses, y.Time) && naiveEnter(y, k, side, direction) {
		return 2
	}
	if inside || any && next != direction {
		w.Lock.Gate = impl.GateShut
		return 3
	}
	return 5
}

func naiveLevel(y *impl.Waterway, k int, upper bool) {
	w, side, gate := &y.Works[k], k+1, impl.GateBelow
	if upper {
		side, gate = k, impl.GateAbove
	}
	if lock, ok := impl.OpenGate(w.Lock, y.Reaches[k], y.Reaches[k+1], gate); ok {
		w.Lock = lock
	} else if impl.ChamberLevel(w.Lock) < impl.LevelOf(y.Reaches[side]) {
		w.Lock, y.Reaches[side] = impl.FillLock(w.Lock, y.Reaches[side])
	} else {
		w.Lock, y.Reaches[side] = impl.DrainLock(w.Lock, y.Reaches[side])
	}
}

func naiveEnter(y *impl.Waterway, k int, side int, direction bool) bool {
	w := &y.Works[k]
	var calls []int
	var queue []impl.Train
	for _, i := range impl.OrderCalls(w.Calls, y.Time) {
		c := w.Calls[i]
		if impl.RankOf(c, y.Time) != 3 && c.Train.Up == direction && impl.MayEnter(w.Lock, y.Reaches[side], c.Train) {
			calls = append(calls, i)
			queue = append(queue, copied(c.Train))
		}
	}
	best := impl.BestEntry(w.Lock, queue)
	if len(best) == 0 {
		return false
	}
	gone := map[int]bool{}
	for _, i := range best {
		gone[calls[i]] = true
		w.Lock, _ = impl.EnterLock(w.Lock, y.Reaches[side], queue[i])
		y.Book, _ = naivePosted(y.Book, naiveEntries(y.Tariff, queue[i], y.Time))
		y.Passings = append(y.Passings, impl.Passing{Time: y.Time, Work: k, Train: queue[i]})
	}
	var rest []impl.Call
	for i, c := range w.Calls {
		if !gone[i] {
			rest = append(rest, c)
		}
	}
	w.Calls = rest
	w.Turn = impl.NoteTurn(w.Turn, queue[best[0]].Up)
	w.Lock.Gate = impl.GateShut
	return true
}

func naiveStep(x impl.Waterway, inflow int) impl.Waterway {
	if !naiveOk(x) || x.Time == 1000000 || inflow < 0 || inflow > 1000000000 {
		return copied(x)
	}
	y := naiveSail(naiveSteer(naivePour(x, inflow), inflow))
	for k := range y.Works {
		y = naiveWork(y, k)
	}
	return y
}

func naiveRun(x impl.Waterway, inflow int, n int) impl.Waterway {
	y := copied(x)
	if n < 0 || n > 2000 {
		return y
	}
	for range n {
		y = naiveStep(y, inflow)
	}
	return y
}

func naivePlaces(x impl.Waterway) []int {
	var trains []impl.Train
	for _, list := range x.Movers {
		for _, m := range list {
			trains = append(trains, m.Train)
		}
	}
	for _, w := range x.Works {
		for _, c := range w.Calls {
			trains = append(trains, c.Train)
		}
		trains = append(trains, w.Lock.Inside...)
	}
	var ids []int
	for _, train := range append(trains, x.Arrived...) {
		ids = append(ids, impl.IdsOf(train)...)
	}
	return ids
}

func naiveOnce(x impl.Waterway) bool {
	places := naivePlaces(x)
	for _, id := range x.Entered {
		first := slices.Index(places, id)
		if first < 0 || slices.Contains(places[first+1:], id) {
			return false
		}
	}
	return len(places) == len(x.Entered)
}

func naiveTolls(x impl.Waterway) bool {
	var list book
	for _, p := range x.Passings {
		list, _ = naivePosted(list, impl.TollEntries(x.Tariff, p.Train, p.Time))
		for _, id := range impl.IdsOf(p.Train) {
			if !slices.Contains(x.Entered, id) {
				return false
			}
		}
	}
	return slices.Equal(list, x.Book)
}

func naiveLedger(x impl.Waterway) bool {
	return naiveOk(x) && naiveWater(x)+x.Out == x.Start+x.In && naiveOnce(x) && naiveTolls(x)
}
