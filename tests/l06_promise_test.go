package tests

import (
	"math/rand"
	"slices"
	"testing"

	"loop.example/g03317/impl"
)

// queue is a lock at which calls come and go, one lockage with one train at a time.
type queue struct {
	calls []impl.Call
	turn  impl.Turn
	now   int
	next  int
}

func (q *queue) come(class int, direction bool, booked int) {
	q.next++
	q.calls = append(q.calls, impl.Call{Train: ranked(q.next, class, direction), Since: q.now, Booked: booked})
}

// serve takes the first call of the next side.
func (q *queue) serve() (impl.Call, bool) {
	side, ok := impl.NextSide(q.calls, q.turn, q.now)
	for _, i := range impl.OrderCalls(q.calls, q.now) {
		if c := q.calls[i]; ok && c.Train.Up == side {
			q.calls = slices.Delete(q.calls, i, i+1)
			q.turn = impl.NoteTurn(q.turn, side)
			return c, true
		}
	}
	return impl.Call{}, false
}

func (q *queue) anyoneBound(direction bool) bool {
	return slices.ContainsFunc(q.calls, func(c impl.Call) bool { return c.Train.Up == direction })
}

// TestNobodyWaitsForEver has a passenger boat without an appointment at every time, and somebody
// else among them: never more go first than were there, or have come while it became older.
func TestNobodyWaitsForEver(t *testing.T) {
	for class := range 3 {
		for ahead := range 6 {
			for _, same := range []bool{true, false} {
				q := &queue{now: 50}
				for range ahead {
					q.come(impl.ClassPassenger, true, -1)
				}
				q.now++
				q.come(class, same, -1)
				id := q.next
				for waited := 0; ; waited++ {
					if c, _ := q.serve(); c.Train.Rows[0][0].Id == id {
						break
					}
					if waited > ahead+2*impl.AgeStep+1 {
						t.Fatalf("a train of class %d behind %d others waits since %d at %d", class, ahead, 51, q.now)
					}
					q.now++
					q.come(impl.ClassPassenger, true, -1)
				}
			}
		}
	}
}

// TestWaitingIsBounded has trains of all classes and directions, where a lockage takes as much time
// as a train needs to come.
func TestWaitingIsBounded(t *testing.T) {
	rnd := rand.New(rand.NewSource(66))
	q := &queue{}
	longest := 0
	for q.next < 5000 {
		q.now++
		if len(q.calls) < impl.MaxCalls {
			q.come(rnd.Intn(3), rnd.Intn(4) > 0, -1)
		}
		c, ok := q.serve()
		if !ok {
			t.Fatalf("nobody goes at %d", q.now)
		}
		longest = max(longest, q.now-c.Since)
	}
	// Each one has at most MaxCalls others before it, and then those that come while it is young.
	if longest > 4*impl.MaxCalls+2*impl.AgeStep {
		t.Errorf("somebody has waited for %d", longest)
	}
}

// TestNoDirectionGoesTooOften serves a queue that is fuller on one side, with and without appointments.
func TestNoDirectionGoesTooOften(t *testing.T) {
	for seed := range int64(20) {
		rnd := rand.New(rand.NewSource(seed))
		q := &queue{now: 1000}
		run, runs, last := 0, map[int]int{}, false
		for range 400 {
			q.now += rnd.Intn(3)
			for range rnd.Intn(3) {
				q.come(rnd.Intn(3), rnd.Intn(6) > 0, q.now-30+rnd.Intn(60))
			}
			wait := q.anyoneBound(!last)
			c, ok := q.serve()
			if ok && (run == 0 || c.Train.Up != last) {
				run, last = 1, c.Train.Up
			} else if ok {
				run++
			}
			if ok && run > impl.MaxTurn && wait {
				t.Fatalf("the direction %v has gone %d times in a row, and somebody waits: %v", last, run, q.calls)
			}
			runs[run]++
		}
		if runs[impl.MaxTurn] == 0 {
			t.Errorf("seed %d: no direction has gone %d times in a row: %v", seed, impl.MaxTurn, runs)
		}
	}
}

// oneWay is a stretch with the trains in it, where those that wait are as many as they want.
type oneWay struct {
	stretch impl.Stretch
	inside  []bool
	run     int
	last    bool
}

func (o *oneWay) enter(t *testing.T, direction bool, others bool) {
	may := impl.MayPass(o.stretch, direction, others)
	if !may {
		return
	}
	if len(o.inside) > 0 && o.inside[0] != direction {
		t.Fatalf("a train enters %+v in the direction %v", o.stretch, direction)
	}
	if direction == o.last {
		o.run++
	} else {
		o.run, o.last = 1, direction
	}
	if others && o.run > o.stretch.Limit {
		t.Fatalf("the train number %d in a row enters %+v, and somebody waits", o.run, o.stretch)
	}
	o.inside = append(o.inside, direction)
	o.stretch = impl.EnterStretch(o.stretch, direction)
}

// TestStretchesAreOneWay lets trains enter and leave as they like, as far as they may.
func TestStretchesAreOneWay(t *testing.T) {
	for seed := range int64(30) {
		rnd := rand.New(rand.NewSource(seed))
		o := &oneWay{stretch: impl.Stretch{Limit: 1 + rnd.Intn(4)}}
		turns := 0
		for range 500 {
			before := o.last
			if rnd.Intn(5) < 2 && len(o.inside) > 0 {
				o.inside = o.inside[1:]
				o.stretch = impl.LeaveStretch(o.stretch)
			} else {
				o.enter(t, rnd.Intn(2) == 0, rnd.Intn(2) == 0)
			}
			if before != o.last {
				turns++
			}
			if want := (impl.Stretch{Up: o.last, Inside: len(o.inside), Run: o.run, Limit: o.stretch.Limit}); o.stretch != want {
				t.Fatalf("%+v should be %+v", o.stretch, want)
			}
		}
		if turns < 5 {
			t.Errorf("seed %d: the direction has changed %d times", seed, turns)
		}
	}
}

// TestBothDirectionsPass has trains at both ends at every time.
func TestBothDirectionsPass(t *testing.T) {
	for limit := 1; limit <= 100; limit += 11 {
		s := impl.Stretch{Limit: limit}
		passed := map[bool]int{}
		for len(passed) < 2 || passed[true]+passed[false] < 10*limit {
			entered := false
			for _, direction := range []bool{s.Up, !s.Up} {
				if !entered && impl.MayPass(s, direction, true) {
					s, entered = impl.EnterStretch(s, direction), true
					passed[direction]++
				}
			}
			if !entered && s.Inside == 0 {
				t.Fatalf("nobody may enter %+v", s)
			}
			if !entered {
				s = impl.LeaveStretch(s)
			}
		}
		if passed[true] != passed[false] {
			t.Errorf("with the limit %d %v have passed", limit, passed)
		}
	}
}
