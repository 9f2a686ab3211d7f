package tests

import (
	"math"
	"math/rand"
	"testing"

	"loop.example/g03317/impl"
)

// lake has 10 for each level.
func lake(volume int, pipe ...int) impl.Reach {
	return impl.Reach{Table: points{{X: 0, Y: 0}, {X: 100, Y: 1000}}, Volume: volume, Pipe: pipe}
}

// lifted returns a lake with other levels.
func lifted(volume int, first int, last int) impl.Reach {
	return impl.Reach{Table: points{{X: first, Y: 0}, {X: last, Y: 1000}}, Volume: volume, Pipe: []int{7}}
}

func TestLetThrough(t *testing.T) {
	wide := impl.Weir{Gates: 8, Open: 80, Step: 3, Crest: 50, Width: 1000}
	known := []struct {
		from, to impl.Reach
		w        impl.Weir
		passed   int
		after    impl.Reach
	}{
		{lake(750), lake(200), plainWeir(), 10, lake(210)},
		{lake(750, 1, 2), lake(200, 3), plainWeir(), 10, lake(200, 13)},
		{lake(750, 1, 2), lake(200, 3, 4, 5), plainWeir(), 10, lake(200, 3, 4, 15)},
		{lake(750), lake(660), plainWeir(), 6, lake(666)},
		{lake(750), lake(750), plainWeir(), 0, lake(750)},
		{lake(750), lake(900), plainWeir(), 0, lake(900)},
		{lake(0), lake(0), plainWeir(), 0, lake(0)},
		// What counts is the level, not what is on its way.
		{lake(500, 250), lake(200), plainWeir(), 0, lake(200)},
		{lake(750), lake(500, 250), plainWeir(), 10, lake(500, 260)},
		// What is below the crest is kept.
		{lake(750), lake(200), wide, 250, lake(450)},
		{lake(501), lake(200), wide, 1, lake(201)},
		{lake(501), lake(200), plainWeir(), 1, lake(201)},
		{lake(502), lake(200), plainWeir(), 2, lake(202)},
		{lake(503), lake(200), plainWeir(), 2, lake(202)},
		{lake(500), lake(200), wide, 0, lake(200)},
		{lake(499), lake(200), wide, 0, lake(200)},
		{lake(750), lake(200), impl.Weir{Gates: 8, Open: 80, Step: 3, Crest: 0, Width: 1000}, 750, lake(950)},
		{lake(750), lake(200), opened(wide, 0), 0, lake(200)},
		// The lower reach may have no space.
		{lake(750), impl.Reach{Table: lake(0).Table, Volume: 200, Pipe: []int{impl.MaxAmount - 203}}, plainWeir(), 3,
			impl.Reach{Table: lake(0).Table, Volume: 200, Pipe: []int{impl.MaxAmount - 200}}},
		{lake(750), lake(200, impl.MaxAmount-200), plainWeir(), 0, lake(200, impl.MaxAmount-200)},
		// A crest below the table keeps what the table begins with, and one above its levels keeps all.
		{impl.Reach{Table: points{{X: 60, Y: 300}, {X: 100, Y: 1000}}, Volume: 310}, lake(200), wide, 10, lake(210)},
		{impl.Reach{Table: points{{X: 60, Y: 300}, {X: 100, Y: 1000}}, Volume: 300}, lake(200), wide, 0, lake(200)},
		{impl.Reach{Table: points{{X: 60, Y: 300}, {X: 100, Y: 1000}}, Volume: 200}, lake(200), wide, 0, lake(200)},
		{lake(1000000), lake(200), impl.Weir{Gates: 8, Open: 80, Step: 3, Crest: 100, Width: 1000}, 0, lake(200)},
		{lake(1000000), lake(200), impl.Weir{Gates: 8, Open: 80, Step: 3, Crest: 99, Width: 10}, 80, lake(280)},
		// Nothing flows where a level is beyond MaxLevel.
		{lifted(1000, 0, impl.MaxLevel), lake(200), plainWeir(), 632, lake(832)},
		{lifted(1000, 0, impl.MaxLevel+1), lake(200), wide, 0, lake(200)},
		{lifted(1000, 0, impl.MaxAmount), lake(200), wide, 0, lake(200)},
		{lake(750), lifted(1000, 0, impl.MaxAmount), wide, 0, lifted(1000, 0, impl.MaxAmount)},
		{lake(750), lifted(0, impl.MaxLevel+1, impl.MaxAmount), wide, 0, lifted(0, impl.MaxLevel+1, impl.MaxAmount)},
	}
	for i, k := range known {
		from, to, passed := impl.LetThrough(k.from, k.to, k.w)
		before := impl.Reach{Table: k.from.Table, Volume: k.from.Volume - k.passed, Pipe: k.from.Pipe}
		if !sameReach(from, before) || !sameReach(to, k.after) || passed != k.passed {
			t.Errorf("%d: LetThrough(%v, %v, %+v) = %v, %v, %d", i, k.from, k.to, k.w, from, to, passed)
		}
	}
}

func TestLetThroughOfInvalidReaches(t *testing.T) {
	good := lake(750, 9)
	weirs := append(invalidWeirs(), plainWeir(), impl.Weir{Gates: 8, Open: 80, Step: 3, Crest: 0, Width: 1000})
	unchanged := func(a impl.Reach, b impl.Reach, w impl.Weir) {
		if from, to, passed := impl.LetThrough(a, b, w); !sameReach(from, a) || !sameReach(to, b) || passed != 0 {
			t.Errorf("LetThrough(%.120v, %.120v, %+v) = %.120v, %.120v, %d", a, b, w, from, to, passed)
		}
	}
	for _, w := range weirs {
		for _, r := range invalidReaches() {
			unchanged(r, good, w)
			unchanged(good, r, w)
			unchanged(r, r, w)
		}
	}
	for _, w := range invalidWeirs() {
		unchanged(good, lake(200), w)
		unchanged(good, lake(0, 3), w)
	}
}

func TestLetThroughIsItsParts(t *testing.T) {
	list := validReaches()
	weirs := append(validWeirs(), impl.Weir{Gates: 2, Open: 15, Step: 3, Crest: 3, Width: 9}, impl.Weir{Gates: 2, Open: 20, Step: 3, Crest: 15, Width: 2})
	for _, from := range list {
		for _, to := range list {
			for _, w := range weirs {
				flow := naiveFlow(w, impl.LevelOf(from), impl.LevelOf(to))
				keep := naiveValue(from.Table, w.Crest)
				a, b, n := impl.LetThrough(from, to, w)
				x, y, m := impl.PassOn(from, to, flow, keep)
				if !sameReach(a, x) || !sameReach(b, y) || n != m {
					t.Errorf("LetThrough(%v, %v, %+v) = %v, %v, %d", from, to, w, a, b, n)
				}
			}
		}
	}
}

func TestWhatIsBelowTheCrestStays(t *testing.T) {
	rnd := rand.New(rand.NewSource(34))
	for range 500 {
		from := impl.Reach{Table: randomTable(rnd), Volume: rnd.Intn(80), Pipe: []int{rnd.Intn(9)}}
		to := impl.Reach{Table: randomTable(rnd), Volume: rnd.Intn(20), Pipe: repeated(1, rnd.Intn(3))}
		w := randomWeir(rnd)
		w.Crest = rnd.Intn(30)
		total := impl.RiverTotal([]impl.Reach{from, to})
		kept := min(from.Volume, naiveValue(from.Table, w.Crest))
		for range 50 {
			nextFrom, nextTo, passed := impl.LetThrough(from, to, w)
			if nextFrom.Volume < kept || nextFrom.Volume != from.Volume-passed || passed < 0 {
				t.Fatalf("%v has become %v through %+v, with %d to keep", from, nextFrom, w, kept)
			}
			if passed > 0 && impl.LevelOf(from) <= max(w.Crest, impl.LevelOf(to)) {
				t.Fatalf("%d flows from %v to %v through %+v", passed, from, to, w)
			}
			if impl.RiverTotal([]impl.Reach{nextFrom, nextTo}) != total {
				t.Fatalf("%v and %v have not %d", nextFrom, nextTo, total)
			}
			from, to = nextFrom, impl.FlowIn(nextTo)
		}
	}
}

func TestAllAboveTheCrestCanLeave(t *testing.T) {
	from, to := lake(1000), lake(0)
	w := impl.Weir{Gates: 2, Open: 10, Step: 3, Crest: 50, Width: 4}
	for range 1000 {
		from, to, _ = impl.LetThrough(from, to, w)
	}
	if !sameReach(from, lake(500)) || !sameReach(to, lake(500)) {
		t.Errorf("%v and %v are left", from, to)
	}
}

func passages() map[string]func(r impl.Reach) []impl.Reach {
	through := func(from impl.Reach, to impl.Reach, crest int, width int) []impl.Reach {
		a, b, _ := impl.LetThrough(from, to, impl.Weir{Gates: 2, Open: 20, Step: 3, Crest: crest, Width: width})
		return []impl.Reach{a, b}
	}
	return map[string]func(r impl.Reach) []impl.Reach{
		"LetThrough from it":          func(r impl.Reach) []impl.Reach { return through(r, water(0, 1), 0, 4) },
		"LetThrough to it":            func(r impl.Reach) []impl.Reach { return through(lake(750, 9), r, 0, 4) },
		"LetThrough from and to it":   func(r impl.Reach) []impl.Reach { return through(r, r, 0, 4) },
		"LetThrough, nothing flows":   func(r impl.Reach) []impl.Reach { return through(r, lake(0, 1), impl.MaxLevel, 4) },
		"LetThrough, an invalid weir": func(r impl.Reach) []impl.Reach { return through(r, r, 0, math.MaxInt) },
	}
}

func TestPassagesChangeNoReach(t *testing.T) {
	checkUnchanged(t, passages())
}

func TestPassagesShareNoMemory(t *testing.T) {
	checkUnshared(t, passages())
}
