package tests

import (
	"math"
	"math/big"
	"testing"

	"loop.example/g03317/impl"
)

// extremes are the arguments that overflow where sums or products are not guarded.
var extremes = []int{
	math.MinInt, math.MinInt + 1, -impl.MaxAmount - 1, -impl.MaxAmount, -2, -1, 0, 1, 2,
	impl.MaxAmount - 1, impl.MaxAmount, impl.MaxAmount + 1, math.MaxInt - 1, math.MaxInt,
}

func TestLimitsOfChapter1(t *testing.T) {
	limits := [][2]int{
		{impl.MaxInputLen, 20000}, {impl.MaxUint, 1000000000}, {impl.MaxLineLen, 600}, {impl.MaxFieldsPerLine, 24},
		{impl.MaxAmount, 1000000000}, {impl.MaxPoints, 20}, {impl.MaxShares, 12},
	}
	for i, l := range limits {
		if l[0] != l[1] {
			t.Errorf("limit %d is %d, not %d", i, l[0], l[1])
		}
	}
}

func TestClamp(t *testing.T) {
	known := []struct{ n, low, high, want int }{
		{3, 1, 5, 3}, {1, 1, 5, 1}, {5, 1, 5, 5}, {0, 1, 5, 1}, {6, 1, 5, 5}, {9, 1, 5, 5},
		{-9, -5, -1, -5}, {0, -5, -1, -1}, {7, 4, 4, 4}, {1, 4, 4, 4},
		{3, 5, 1, 5}, {0, 5, 1, 5}, {9, 5, 1, 5}, {5, 5, 4, 5}, {4, 5, 4, 5},
		{0, math.MinInt, math.MaxInt, 0}, {math.MinInt, math.MinInt, math.MaxInt, math.MinInt},
		{0, math.MaxInt, math.MinInt, math.MaxInt},
	}
	for _, k := range known {
		if got := impl.Clamp(k.n, k.low, k.high); got != k.want {
			t.Errorf("Clamp(%d, %d, %d) = %d", k.n, k.low, k.high, got)
		}
	}
}

func TestClampedValuesAreInTheRange(t *testing.T) {
	for _, n := range extremes {
		for _, low := range extremes {
			for _, high := range extremes {
				got := impl.Clamp(n, low, high)
				if high < low {
					if got != low {
						t.Errorf("Clamp(%d, %d, %d) = %d", n, low, high, got)
					}
					continue
				}
				inside := n >= low && n <= high
				if got < low || got > high || inside && got != n || !inside && got != low && got != high {
					t.Errorf("Clamp(%d, %d, %d) = %d", n, low, high, got)
				}
			}
		}
	}
}

func TestFloorDiv(t *testing.T) {
	known := []struct{ a, b, want int }{
		{7, 2, 3}, {-7, 2, -4}, {8, 2, 4}, {-8, 2, -4}, {0, 5, 0}, {-1, 5, -1}, {-5, 5, -1}, {-6, 5, -2}, {4, 5, 0},
		{7, 0, 0}, {7, -2, 0}, {-7, -2, 0}, {0, 0, 0}, {math.MinInt, -1, 0}, {1, math.MinInt, 0},
		{math.MinInt, 1, math.MinInt}, {math.MaxInt, 1, math.MaxInt}, {math.MinInt, math.MaxInt, -2},
		{math.MinInt + 1, math.MaxInt, -1}, {math.MaxInt, math.MaxInt, 1}, {-1, math.MaxInt, -1},
	}
	for _, k := range known {
		if got := impl.FloorDiv(k.a, k.b); got != k.want {
			t.Errorf("FloorDiv(%d, %d) = %d", k.a, k.b, got)
		}
	}
}

func TestFloorDivRoundsDown(t *testing.T) {
	for a := -60; a <= 60; a++ {
		for b := 1; b <= 12; b++ {
			if q := impl.FloorDiv(a, b); q*b > a || (q+1)*b <= a {
				t.Errorf("FloorDiv(%d, %d) = %d", a, b, q)
			}
		}
	}
}

func TestRootOf(t *testing.T) {
	const greatest = 1000000000000000000
	known := []struct{ n, want int }{
		{0, 0}, {1, 1}, {2, 1}, {3, 1}, {4, 2}, {99, 9}, {100, 10},
		{greatest, 1000000000}, {greatest - 1, 999999999},
		{-1, -1}, {greatest + 1, -1}, {math.MaxInt, -1}, {math.MinInt, -1},
	}
	for _, k := range known {
		if got := impl.RootOf(k.n); got != k.want {
			t.Errorf("RootOf(%d) = %d", k.n, got)
		}
	}
}

func TestRootOfAroundSquares(t *testing.T) {
	roots := []int{46340, 46341, 65536, 94906265, 94906267, 123456789, 999999998, 999999999}
	for r := 1; r < 3000; r++ {
		roots = append(roots, r)
	}
	for _, r := range roots {
		for n, want := range map[int]int{r*r - 1: r - 1, r * r: r, r*r + 1: r, r*r + 2*r: r} {
			if got := impl.RootOf(n); got != want {
				t.Errorf("RootOf(%d) = %d, not %d", n, got, want)
			}
		}
	}
}

func TestNextRandom(t *testing.T) {
	known := []struct{ state, want int }{
		{0, 13849}, {1, 39022}, {2, 64195}, {3, 23832}, {65535, 54212},
		{-1, 0}, {65536, 0}, {math.MinInt, 0}, {math.MaxInt, 0},
	}
	for _, k := range known {
		if got := impl.NextRandom(k.state); got != k.want {
			t.Errorf("NextRandom(%d) = %d", k.state, got)
		}
	}
}

func TestNextRandomComesToEveryState(t *testing.T) {
	state := 0
	seen := map[int]bool{}
	for range 65536 {
		state = impl.NextRandom(state)
		if state < 0 || state > 65535 || seen[state] {
			t.Fatalf("state %d after %d others", state, len(seen))
		}
		seen[state] = true
	}
}

func TestRandomBelow(t *testing.T) {
	known := []struct{ state, n, next, below int }{
		{1, 100, 39022, 38}, {1, 1, 39022, 0}, {1, 4096, 39022, 2438}, {1, 4095, 39022, 2438}, {1, 2438, 39022, 0},
		{0, 7, 13849, 4}, {65535, 10, 54212, 8},
		{1, 0, 0, 0}, {1, -1, 0, 0}, {1, 4097, 0, 0}, {1, math.MinInt, 0, 0}, {1, math.MaxInt, 0, 0},
		{-1, 100, 0, 0}, {65536, 100, 0, 0}, {math.MinInt, 100, 0, 0}, {math.MaxInt, 100, 0, 0}, {-1, 0, 0, 0},
	}
	for _, k := range known {
		if next, below := impl.RandomBelow(k.state, k.n); next != k.next || below != k.below {
			t.Errorf("RandomBelow(%d, %d) = %d, %d", k.state, k.n, next, below)
		}
	}
}

func TestRandomBelowIsBelow(t *testing.T) {
	for state := 0; state < 65536; state += 5 {
		for _, n := range []int{1, 2, 3, 1000, 4095, 4096} {
			next, below := impl.RandomBelow(state, n)
			if next != impl.NextRandom(state) || below != next/16%n {
				t.Errorf("RandomBelow(%d, %d) = %d, %d", state, n, next, below)
			}
		}
	}
}

// rise returns a*b/c, rounded down, in numbers of any size.
func rise(a int, b int, c int) int {
	product := new(big.Int).Mul(big.NewInt(int64(a)), big.NewInt(int64(b)))
	return int(product.Div(product, big.NewInt(int64(c))).Int64())
}
