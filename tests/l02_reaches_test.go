package tests

import (
	"math"
	"math/rand"
	"slices"
	"testing"

	"loop.example/g03317/impl"
)

// slope rises from 0 to 100 on the levels from 0 to 10.
func slope() points {
	return points{{X: 0, Y: 0}, {X: 10, Y: 100}}
}

// water returns a reach on the slope.
func water(volume int, pipe ...int) impl.Reach {
	return impl.Reach{Table: slope(), Volume: volume, Pipe: pipe}
}

func sameReach(a impl.Reach, b impl.Reach) bool {
	return slices.Equal(a.Table, b.Table) && a.Volume == b.Volume && slices.Equal(a.Pipe, b.Pipe)
}

func validReaches() []impl.Reach {
	list := []impl.Reach{
		water(0), water(1), water(impl.MaxAmount),
		water(50, 0), water(50, 0, 30), water(80, 1, 2, 3),
		water(0, impl.MaxAmount), water(0, 0, impl.MaxAmount, 0), water(impl.MaxAmount, 0, 0),
		water(impl.MaxAmount-1, 1), water(impl.MaxAmount-6, 1, 2, 3),
		water(7, repeated(0, impl.MaxDelay)...), water(7, repeated(3, impl.MaxDelay)...),
		water(impl.MaxAmount-impl.MaxDelay, repeated(1, impl.MaxDelay)...),
	}
	for _, table := range slices.Concat(validTables(), wideTables()) {
		list = append(list, impl.Reach{Table: table, Volume: 20, Pipe: []int{4, 5}})
	}
	return list
}

func invalidReaches() []impl.Reach {
	list := []impl.Reach{
		{},
		water(-1), water(-1, 1), water(-1, 5, 5), water(impl.MaxAmount + 1), water(math.MinInt), water(math.MaxInt),
		water(50, -1), water(50, 3, -1), water(50, -1, 3), water(50, 3, -1, 3), water(50, math.MinInt),
		water(0, impl.MaxAmount+1), water(0, 0, math.MaxInt),
		water(7, repeated(0, impl.MaxDelay+1)...), water(7, repeated(0, 100000)...),
		water(7, repeated(math.MaxInt, 100000)...),
		water(1, impl.MaxAmount), water(impl.MaxAmount, 1), water(impl.MaxAmount-5, 1, 2, 3),
		water(impl.MaxAmount-impl.MaxDelay+1, repeated(1, impl.MaxDelay)...),
		// The sums of these are in the range if they are taken modulo 2^64.
		water(2, math.MaxInt, math.MaxInt), water(0, math.MaxInt, math.MaxInt, 2),
		water(100, math.MinInt, math.MinInt), water(0, 1<<62, 1<<62, 1<<62, 1<<62), water(math.MinInt, 1<<62, 1<<62),
		water(impl.MaxAmount, repeated(impl.MaxAmount, impl.MaxDelay)...),
	}
	for _, table := range invalidTables() {
		list = append(list, impl.Reach{Table: table, Volume: 20, Pipe: []int{4, 5}}, impl.Reach{Table: table})
	}
	return list
}

func TestLimitsOfChapter2(t *testing.T) {
	if impl.MaxDelay != 12 || impl.MaxReaches != 6 {
		t.Errorf("the limits are %d and %d", impl.MaxDelay, impl.MaxReaches)
	}
}

func TestReachOk(t *testing.T) {
	for _, r := range validReaches() {
		if !impl.ReachOk(r) {
			t.Errorf("ReachOk(%v) is false", r)
		}
	}
	for _, r := range invalidReaches() {
		if impl.ReachOk(r) {
			t.Errorf("ReachOk(%.120v) is true", r)
		}
	}
}

func TestNewReach(t *testing.T) {
	table := points{{X: 10, Y: 5}, {X: 20, Y: 100}, {X: 30, Y: 100}, {X: 33, Y: 101}}
	known := []struct{ level, delay, volume int }{
		{15, 0, 52}, {15, 1, 52}, {15, impl.MaxDelay, 52}, {10, 2, 5}, {9, 2, 5}, {11, 2, 14}, {25, 2, 100},
		{33, 2, 101}, {34, 2, 101}, {0, 2, 5}, {-1, 2, 5}, {math.MinInt, 2, 5}, {math.MaxInt, 2, 101},
	}
	for _, k := range known {
		want := impl.Reach{Table: table, Volume: k.volume, Pipe: repeated(0, k.delay)}
		if got, ok := impl.NewReach(table, k.level, k.delay); !sameReach(got, want) || !ok {
			t.Errorf("NewReach(%d, %d) = %v, %v", k.level, k.delay, got, ok)
		}
	}
}

func TestNewReachOfManyTables(t *testing.T) {
	for _, table := range slices.Concat(validTables(), wideTables()) {
		for _, level := range append([]int{3, 5, 9, 15, 30, 333333334}, extremes...) {
			want := impl.Reach{Table: table, Volume: naiveValue(table, level), Pipe: []int{0, 0, 0}}
			if got, ok := impl.NewReach(table, level, 3); !sameReach(got, want) || !ok {
				t.Errorf("NewReach(%v, %d, 3) = %v, %v", table, level, got, ok)
			}
		}
	}
}

func TestNewReachRejects(t *testing.T) {
	for _, delay := range []int{-1, impl.MaxDelay + 1, math.MinInt, math.MaxInt} {
		if got, ok := impl.NewReach(slope(), 5, delay); !sameReach(got, impl.Reach{}) || ok {
			t.Errorf("NewReach with the delay %d = %v, %v", delay, got, ok)
		}
	}
	for _, table := range invalidTables() {
		for _, delay := range []int{0, 2, impl.MaxDelay, impl.MaxDelay + 1, -1} {
			if got, ok := impl.NewReach(table, 5, delay); !sameReach(got, impl.Reach{}) || ok {
				t.Errorf("NewReach of %d points with the delay %d = %.80v, %v", len(table), delay, got, ok)
			}
		}
	}
}

func TestLevelOf(t *testing.T) {
	table := points{{X: 10, Y: 5}, {X: 20, Y: 100}, {X: 30, Y: 100}, {X: 33, Y: 101}}
	known := []struct{ volume, want int }{
		{0, 10}, {4, 10}, {5, 10}, {6, 11}, {14, 11}, {15, 12}, {90, 19}, {91, 20}, {100, 20}, {101, 33},
		{102, 33}, {100000, 33}, {impl.MaxAmount - 9, 33},
	}
	for _, k := range known {
		// What is on its way does not lift the level.
		r := impl.Reach{Table: table, Volume: k.volume, Pipe: []int{4, 5}}
		if got := impl.LevelOf(r); got != k.want {
			t.Errorf("LevelOf with %d = %d", k.volume, got)
		}
	}
}

func TestLevelsAreTheFirstWithTheVolume(t *testing.T) {
	rnd := rand.New(rand.NewSource(21))
	for range 200 {
		table := randomTable(rnd)
		last := table[len(table)-1]
		for volume := 0; volume <= last.Y+3; volume++ {
			want := last.X
			for x := last.X; x >= table[0].X && naiveValue(table, x) >= volume; x-- {
				want = x
			}
			if got := impl.LevelOf(impl.Reach{Table: table, Volume: volume}); got != want {
				t.Errorf("LevelOf of %d in %v = %d, not %d", volume, table, got, want)
			}
		}
	}
}

func TestTotalAndSpace(t *testing.T) {
	known := []struct {
		r     impl.Reach
		total int
	}{
		{water(0), 0}, {water(0, 0, 0), 0}, {water(50), 50}, {water(50, 0, 30), 80}, {water(1, 2, 3, 4), 10},
		{water(impl.MaxAmount), impl.MaxAmount}, {water(0, impl.MaxAmount), impl.MaxAmount},
		{water(impl.MaxAmount-7, 3, 4), impl.MaxAmount}, {water(impl.MaxAmount-8, 3, 4), impl.MaxAmount - 1},
		{water(5, repeated(7, impl.MaxDelay)...), 5 + 7*impl.MaxDelay},
	}
	for _, k := range known {
		if total, space := impl.TotalOf(k.r), impl.SpaceIn(k.r); total != k.total || space != impl.MaxAmount-k.total {
			t.Errorf("TotalOf and SpaceIn(%v) = %d, %d", k.r, total, space)
		}
	}
}

func TestInvalidReachesHaveNoNumbers(t *testing.T) {
	for _, r := range invalidReaches() {
		if level, total, space := impl.LevelOf(r), impl.TotalOf(r), impl.SpaceIn(r); level != 0 || total != 0 || space != 0 {
			t.Errorf("LevelOf, TotalOf and SpaceIn(%.120v) = %d, %d, %d", r, level, total, space)
		}
	}
}

func TestRiverOk(t *testing.T) {
	half := water(impl.MaxAmount/2, 0)
	sixth := water(0, impl.MaxAmount/impl.MaxReaches)
	known := []struct {
		list  []impl.Reach
		total int
	}{
		{[]impl.Reach{water(0)}, 0},
		{[]impl.Reach{water(50, 3)}, 53},
		{[]impl.Reach{water(50, 3), water(7), water(0, 0, 2)}, 62},
		{slices.Repeat([]impl.Reach{water(5, 1)}, impl.MaxReaches), 6 * impl.MaxReaches},
		{[]impl.Reach{water(impl.MaxAmount)}, impl.MaxAmount},
		{[]impl.Reach{water(impl.MaxAmount), water(0, 0)}, impl.MaxAmount},
		{[]impl.Reach{half, half}, impl.MaxAmount},
		{append(slices.Repeat([]impl.Reach{sixth}, impl.MaxReaches-1), water(impl.MaxAmount/impl.MaxReaches+4)), impl.MaxAmount},
	}
	for _, k := range known {
		if !impl.RiverOk(k.list) || impl.RiverTotal(k.list) != k.total {
			t.Errorf("RiverOk and RiverTotal(%v) = %v, %d", k.list, impl.RiverOk(k.list), impl.RiverTotal(k.list))
		}
	}
}

func TestRiverOkRejects(t *testing.T) {
	half := water(impl.MaxAmount/2, 0)
	rejected := [][]impl.Reach{
		nil,
		{},
		slices.Repeat([]impl.Reach{water(0)}, impl.MaxReaches+1),
		slices.Repeat([]impl.Reach{water(5, 1)}, 10000),
		{half, half, water(1)},
		{half, water(0, impl.MaxAmount/2+1)},
		{water(impl.MaxAmount), water(0, 1)},
		slices.Repeat([]impl.Reach{water(impl.MaxAmount)}, impl.MaxReaches),
	}
	for _, r := range invalidReaches() {
		rejected = append(rejected, []impl.Reach{r}, []impl.Reach{r, water(5)}, []impl.Reach{water(5), r}, []impl.Reach{water(5), r, water(5)})
	}
	for _, list := range rejected {
		if impl.RiverOk(list) || impl.RiverTotal(list) != 0 {
			t.Errorf("RiverOk and RiverTotal of %d reaches %.120v = %v, %d", len(list), list, impl.RiverOk(list), impl.RiverTotal(list))
		}
	}
}
