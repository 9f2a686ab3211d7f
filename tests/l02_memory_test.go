package tests

import (
	"slices"
	"testing"
	"unsafe"

	"loop.example/g03317/impl"
)

// block is the memory of a slice, with its spare capacity. The pointer keeps this memory from being used for something else.
type block struct {
	from, size uintptr
	memory     unsafe.Pointer
}

func blockAt(memory unsafe.Pointer, size uintptr) block {
	return block{uintptr(memory), size, memory}
}

func blockOf[T any](list []T) block {
	var one T
	return blockAt(unsafe.Pointer(unsafe.SliceData(list)), uintptr(cap(list))*unsafe.Sizeof(one))
}

// touches also reports a block of no size that begins inside the other one.
func (b block) touches(other block) bool {
	overlap := b.from < other.from+other.size && other.from < b.from+b.size
	return overlap || b.size == 0 && b.from >= other.from && b.from < other.from+other.size
}

func blocksOf(r impl.Reach) []block {
	return []block{blockOf(r.Table), blockOf(r.Pipe)}
}

// roomy returns the same reach with spare capacity behind its slices, and these with all of it.
func roomy(r impl.Reach) (impl.Reach, points, []int) {
	table := append(slices.Clone(r.Table), impl.Point{X: 77, Y: 88}, impl.Point{X: 99, Y: 111})
	pipe := append(slices.Clone(r.Pipe), 55, 66)
	return impl.Reach{Table: table[:len(r.Table)], Volume: r.Volume, Pipe: pipe[:len(r.Pipe)]}, table, pipe
}

// changes are the functions that return reaches, each with arguments that it accepts or rejects.
func changes() map[string]func(r impl.Reach) []impl.Reach {
	one := func(r impl.Reach, _ int) []impl.Reach { return []impl.Reach{r} }
	two := func(a impl.Reach, b impl.Reach, _ int) []impl.Reach { return []impl.Reach{a, b} }
	return map[string]func(r impl.Reach) []impl.Reach{
		"NewReach":           func(r impl.Reach) []impl.Reach { n, _ := impl.NewReach(r.Table, 5, 3); return []impl.Reach{n} },
		"NewReach, no delay": func(r impl.Reach) []impl.Reach { n, _ := impl.NewReach(r.Table, 5, 0); return []impl.Reach{n} },
		"SendTo":             func(r impl.Reach) []impl.Reach { return []impl.Reach{impl.SendTo(r, 1)} },
		"SendTo, rejected":   func(r impl.Reach) []impl.Reach { return []impl.Reach{impl.SendTo(r, -1)} },
		"TakeOff":            func(r impl.Reach) []impl.Reach { return one(impl.TakeOff(r, 1, 0)) },
		"TakeOff, rejected":  func(r impl.Reach) []impl.Reach { return one(impl.TakeOff(r, 1, -1)) },
		"PassOn":             func(r impl.Reach) []impl.Reach { return two(impl.PassOn(r, r, 1, 0)) },
		"PassOn, rejected":   func(r impl.Reach) []impl.Reach { return two(impl.PassOn(r, r, -1, 0)) },
		"PassOn from it":     func(r impl.Reach) []impl.Reach { return two(impl.PassOn(r, water(5, 1), 1, 0)) },
		"PassOn to it":       func(r impl.Reach) []impl.Reach { return two(impl.PassOn(water(5, 1), r, 1, 0)) },
		"FlowIn":             func(r impl.Reach) []impl.Reach { return []impl.Reach{impl.FlowIn(r)} },
		"no change": func(r impl.Reach) []impl.Reach {
			impl.ReachOk(r)
			impl.LevelOf(r)
			impl.TotalOf(r)
			impl.SpaceIn(r)
			impl.RiverOk([]impl.Reach{r, r})
			impl.RiverTotal([]impl.Reach{r, r})
			return nil
		},
	}
}

func TestReachesAreNotChanged(t *testing.T) {
	checkUnchanged(t, changes())
}

func TestReachesShareNoMemory(t *testing.T) {
	checkUnshared(t, changes())
}

func checkUnchanged(t *testing.T, changes map[string]func(r impl.Reach) []impl.Reach) {
	for name, change := range changes {
		for _, given := range slices.Concat(validReaches(), invalidReaches()) {
			r, table, pipe := roomy(given)
			tableBefore, pipeBefore := slices.Clone(table), slices.Clone(pipe)
			change(r)
			if !slices.Equal(table, tableBefore) || !slices.Equal(pipe, pipeBefore) {
				t.Errorf("%s: %.120v has become %.60v, %.60v", name, given, table, pipe)
			}
		}
	}
}

func checkUnshared(t *testing.T, changes map[string]func(r impl.Reach) []impl.Reach) {
	for name, change := range changes {
		for _, given := range slices.Concat(validReaches(), invalidReaches()) {
			r, _, _ := roomy(given)
			blocks := blocksOf(r)
			for _, result := range change(r) {
				for _, b := range blocksOf(result) {
					if slices.ContainsFunc(blocks, b.touches) {
						t.Errorf("%s of %.120v: a result shares memory", name, given)
					}
				}
				blocks = append(blocks, blocksOf(result)...)
			}
		}
	}
}

func TestRiversAreNotChanged(t *testing.T) {
	for _, last := range slices.Concat(validReaches(), invalidReaches()) {
		behind := []impl.Reach{water(5, 1), last, water(9, 9), water(8, 8)}
		before := slices.Clone(behind)
		impl.RiverOk(behind[:2])
		impl.RiverTotal(behind[:2])
		if !slices.EqualFunc(behind, before, sameReach) {
			t.Errorf("%.120v have become %.120v", before, behind)
		}
	}
}
