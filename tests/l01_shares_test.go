package tests

import (
	"math"
	"math/rand"
	"slices"
	"testing"

	"loop.example/g03317/impl"
)

func repeated(n int, count int) []int {
	return slices.Repeat([]int{n}, count)
}

func TestShareOut(t *testing.T) {
	known := []struct {
		total   int
		weights []int
		want    []int
	}{
		{10, []int{1, 1, 1, 0}, []int{4, 3, 3, 0}},
		{11, []int{1, 1, 1}, []int{4, 4, 3}},
		{10, []int{0, 1, 1, 1}, []int{0, 4, 3, 3}},
		{0, []int{3, 4}, []int{0, 0}},
		{7, []int{5}, []int{7}},
		{7, []int{0, 5, 0}, []int{0, 7, 0}},
		{1, []int{1, 2}, []int{0, 1}},
		{1, []int{2, 1}, []int{1, 0}},
		{2, []int{1, 2, 2}, []int{0, 1, 1}},
		{10, []int{1, 2, 4}, []int{1, 3, 6}},
		{100, []int{3, 3, 1}, []int{43, 43, 14}},
		{1, repeated(1000000, impl.MaxShares), []int{1, 0, 0, 0, 0, 0, 0, 0, 0, 0, 0, 0}},
		{impl.MaxAmount, []int{1000000}, []int{impl.MaxAmount}},
		{impl.MaxAmount, []int{1, 1000000}, []int{1000, 999999000}},
		{impl.MaxAmount, []int{1000000, 1000000, 1000000}, []int{333333334, 333333333, 333333333}},
	}
	for _, k := range known {
		if got := impl.ShareOut(k.total, k.weights); !slices.Equal(got, k.want) {
			t.Errorf("ShareOut(%d, %v) = %v, not %v", k.total, k.weights, got, k.want)
		}
	}
}

func TestShareOutRejects(t *testing.T) {
	rejected := []struct {
		total   int
		weights []int
	}{
		{-1, []int{1}}, {impl.MaxAmount + 1, []int{1}}, {math.MinInt, []int{1}}, {math.MaxInt, []int{1}},
		{5, nil}, {5, []int{}}, {5, repeated(1, impl.MaxShares+1)}, {5, repeated(1, 100000)},
		{5, []int{1, -1, 1}}, {5, []int{-1}}, {5, []int{2, -1}}, {5, []int{1000001}}, {5, []int{1, 1000001}},
		{5, []int{math.MinInt, 1}}, {5, []int{math.MaxInt, 1}}, {5, []int{math.MaxInt, math.MaxInt, 3}},
		{5, []int{0}}, {5, []int{0, 0, 0}}, {0, []int{0}}, {5, repeated(0, impl.MaxShares)},
	}
	for _, k := range rejected {
		if got := impl.ShareOut(k.total, k.weights); got != nil {
			t.Errorf("ShareOut of %d by %d weights = %v", k.total, len(k.weights), got)
		}
	}
}

// naiveShares gives what is left to one share after the other, each time to the first one with the greatest remainder.
func naiveShares(total int, weights []int) []int {
	sum := 0
	for _, w := range weights {
		sum += w
	}
	shares := make([]int, len(weights))
	remainders := make([]int, len(weights))
	left := total
	for k, w := range weights {
		shares[k] = rise(total, w, sum)
		remainders[k] = total*w - shares[k]*sum
		left -= shares[k]
	}
	for ; left > 0; left-- {
		best := slices.Index(remainders, slices.Max(remainders))
		shares[best]++
		remainders[best] = -1
	}
	return shares
}

func TestSharesAddUpToTheTotal(t *testing.T) {
	r := rand.New(rand.NewSource(3))
	for range 5000 {
		weights := make([]int, 1+r.Intn(impl.MaxShares))
		greatest := []int{1, 3, 10, 1000000}[r.Intn(4)]
		for k := range weights {
			weights[k] = r.Intn(greatest + 1)
		}
		if slices.Max(weights) == 0 {
			weights[0] = greatest
		}
		total := r.Intn([]int{1, 20, 1000, impl.MaxAmount}[r.Intn(4)] + 1)
		got := impl.ShareOut(total, weights)
		if want := naiveShares(total, weights); !slices.Equal(got, want) {
			t.Fatalf("ShareOut(%d, %v) = %v, not %v", total, weights, got, want)
		}
		sum := 0
		for _, share := range got {
			sum += share
		}
		if sum != total {
			t.Fatalf("the shares %v of %d have the sum %d", got, total, sum)
		}
	}
}

func TestSharesAtTheLimits(t *testing.T) {
	for _, weight := range []int{1, 7, 999999, 1000000} {
		for _, total := range []int{0, 1, 11, 12, 13, impl.MaxAmount - 1, impl.MaxAmount} {
			weights := repeated(weight, impl.MaxShares)
			weights[3] = 1000000
			if got, want := impl.ShareOut(total, weights), naiveShares(total, weights); !slices.Equal(got, want) {
				t.Errorf("ShareOut(%d, %v) = %v, not %v", total, weights, got, want)
			}
		}
	}
}

func TestShareOutDoesNotChangeTheWeights(t *testing.T) {
	behind := []int{3, 1, 2, 99, 98}
	weights := behind[:3]
	shares := impl.ShareOut(100, weights)
	if !slices.Equal(behind, []int{3, 1, 2, 99, 98}) {
		t.Errorf("the weights have become %v", behind)
	}
	shares[0] = 77
	if weights[0] != 3 {
		t.Error("the shares lie in the weights")
	}
}
