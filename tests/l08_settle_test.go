package tests

import (
	"math"
	"math/rand"
	"slices"
	"testing"

	"loop.example/g03317/impl"
)

func settles(from int, to int, amount int) impl.Entry {
	return impl.Entry{From: from, To: to, Amount: amount, Time: 3}
}

func TestSettleUp(t *testing.T) {
	const most = impl.MaxAmount
	known := []struct {
		balances []int
		list     book
	}{
		{nil, nil}, {[]int{}, nil}, {[]int{0}, nil}, {[]int{0, 0, 0}, nil}, {repeated(0, 12), nil},
		{[]int{1, -1}, book{settles(0, 1, 1)}}, {[]int{-1, 1}, book{settles(1, 0, 1)}}, {[]int{0, 5, 0, -5, 0}, book{settles(1, 3, 5)}},
		{[]int{most, -most}, book{settles(0, 1, most)}}, {[]int{-most, 0, most}, book{settles(2, 0, most)}},
		// One owes several, and several owe one.
		{[]int{-17, 6, 11}, book{settles(2, 0, 11), settles(1, 0, 6)}},
		{[]int{17, -6, -11}, book{settles(0, 2, 11), settles(0, 1, 6)}},
		{[]int{-17, 6, 6, 5}, book{settles(1, 0, 6), settles(2, 0, 6), settles(3, 0, 5)}},
		// Of equal ones the one with the least number.
		{[]int{2, 2, -2, -2}, book{settles(0, 2, 2), settles(1, 3, 2)}},
		{[]int{-2, 2, -2, 2}, book{settles(1, 0, 2), settles(3, 2, 2)}},
		{[]int{3, -1, -1, -1}, book{settles(0, 1, 1), settles(0, 2, 1), settles(0, 3, 1)}},
		{[]int{-1, -1, 3, -1}, book{settles(2, 0, 1), settles(2, 1, 1), settles(2, 3, 1)}},
		{[]int{1, 1, 1, -3}, book{settles(0, 3, 1), settles(1, 3, 1), settles(2, 3, 1)}},
		// The greatest with the least, also where others would match.
		{[]int{5, 3, -5, -3}, book{settles(0, 2, 5), settles(1, 3, 3)}},
		{[]int{5, 4, -3, -6}, book{settles(0, 3, 5), settles(1, 2, 3), settles(1, 3, 1)}},
		{[]int{10, -7, -2, -1}, book{settles(0, 1, 7), settles(0, 2, 2), settles(0, 3, 1)}},
		{[]int{6, 5, -4, -4, -3}, book{settles(0, 2, 4), settles(1, 3, 4), settles(0, 4, 2), settles(1, 4, 1)}},
		// What is left of a balance may become equal to another one.
		{[]int{2, 4, -2, -2, -2}, book{settles(1, 2, 2), settles(0, 3, 2), settles(1, 4, 2)}},
		{[]int{4, 2, -2, -2, -2}, book{settles(0, 2, 2), settles(0, 3, 2), settles(1, 4, 2)}},
		{[]int{2, 2, 2, -2, -4}, book{settles(0, 4, 2), settles(1, 3, 2), settles(2, 4, 2)}},
		// All accounts, and the greatest amounts.
		{[]int{most, most, most, most, most, most, -most, -most, -most, -most, -most, -most}, book{
			settles(0, 6, most), settles(1, 7, most), settles(2, 8, most), settles(3, 9, most), settles(4, 10, most), settles(5, 11, most)}},
		{append(repeated(1, 11), -11), book{
			settles(0, 11, 1), settles(1, 11, 1), settles(2, 11, 1), settles(3, 11, 1), settles(4, 11, 1), settles(5, 11, 1),
			settles(6, 11, 1), settles(7, 11, 1), settles(8, 11, 1), settles(9, 11, 1), settles(10, 11, 1)}},
	}
	for _, k := range known {
		if list := impl.SettleUp(k.balances, 3); !slices.Equal(list, k.list) {
			t.Errorf("SettleUp(%v) = %v", k.balances, list)
		}
	}
}

func TestTimesOfSettlements(t *testing.T) {
	for _, time := range []int{0, 1, 999999, 1000000} {
		want := book{{From: 2, To: 0, Amount: 11, Time: time}, {From: 1, To: 0, Amount: 6, Time: time}}
		if list := impl.SettleUp([]int{-17, 6, 11}, time); !slices.Equal(list, want) {
			t.Errorf("SettleUp at %d = %v", time, list)
		}
	}
	for _, time := range append(farNumbers(), 1000001) {
		for _, balances := range [][]int{nil, {0, 0}, {-17, 6, 11}} {
			if list := impl.SettleUp(balances, time); len(list) != 0 {
				t.Errorf("SettleUp(%v) at %d = %v", balances, time, list)
			}
		}
	}
}

func TestSettleUpRejects(t *testing.T) {
	const most = impl.MaxAmount
	rejected := [][]int{
		// The sum is not 0.
		{1}, {-1}, {most}, {1, 1}, {1, -2}, {-1, 2}, {0, 0, 1}, {5, -4, 0}, {most, -most + 1}, repeated(1, 12), repeated(-1, 12),
		// Too many balances.
		repeated(0, 13), append([]int{1, -1}, repeated(0, 11)...), append(repeated(0, 11), 1, -1), repeated(0, 100000), repeated(1, 100000),
		slices.Repeat([]int{1, -1}, 50000),
		// Balances beyond the limits.
		{most + 1, -most - 1}, {-most - 1, most + 1}, {most + 1, -most, -1}, {most, 1, -most - 1}, {0, most + 1, 0, -1, -most},
		// Sums that are 0 only modulo 2^64 or modulo 2^32.
		{math.MinInt}, {math.MinInt, math.MinInt}, {math.MaxInt, math.MaxInt, 2}, {math.MaxInt, -math.MaxInt}, {math.MinInt, math.MaxInt, 1},
		{math.MinInt, math.MinInt, 0, 0}, {math.MinInt, 5, -5, math.MinInt}, slices.Repeat([]int{1 << 62}, 4), {1 << 32}, {1<<32 + 1, -1},
	}
	for _, balances := range rejected {
		for _, time := range []int{0, 3, impl.MaxTime, -1} {
			if list := impl.SettleUp(balances, time); len(list) != 0 {
				t.Errorf("SettleUp(%s) at %d = %s", briefly(balances), time, briefly(list))
			}
		}
	}
}

func TestEachLimitOfBalances(t *testing.T) {
	for _, n := range extremes {
		for _, m := range extremes {
			want := n == -m && n != 0 && n >= -1000000000 && n <= 1000000000
			for count := range 12 {
				balances := append(repeated(0, count), n, m)
				list := impl.SettleUp(balances, 3)
				if (len(list) == 1) != (want && count <= 10) || len(list) > 1 {
					t.Errorf("SettleUp(%v) = %v", balances, list)
				}
			}
		}
	}
}

// naiveSettled goes through the accounts for each entry, with one comparison after the other.
func naiveSettled(balances []int, time int) book {
	left := map[int]int{}
	for account, balance := range balances {
		left[account] = balance
	}
	var list book
	for {
		from, to := 0, 0
		for account := 1; account < len(balances); account++ {
			if left[account] > left[from] {
				from = account
			}
			if left[account] < left[to] {
				to = account
			}
		}
		if left[from] == 0 {
			return list
		}
		e := impl.Entry{From: from, To: to, Time: time, Amount: left[from]}
		if left[to]+left[from] > 0 {
			e.Amount = 0 - left[to]
		}
		left[from], left[to] = left[from]-e.Amount, left[to]+e.Amount
		list = append(list, e)
	}
}

// randomBalances have the sum 0; with small amounts many of them are equal.
func randomBalances(rnd *rand.Rand) []int {
	balances := make([]int, 2+rnd.Intn(impl.MaxAccounts-1))
	most := []int{2, 5, 1000, impl.MaxAmount / impl.MaxAccounts}[rnd.Intn(4)]
	for range 2 * len(balances) {
		amount := rnd.Intn(most) / 2
		balances[rnd.Intn(len(balances))] += amount
		balances[rnd.Intn(len(balances))] -= amount
	}
	return balances
}

func TestManySettlements(t *testing.T) {
	rnd := rand.New(rand.NewSource(86))
	for range 20000 {
		balances, time := randomBalances(rnd), rnd.Intn(impl.MaxTime+1)
		if list := impl.SettleUp(balances, time); !slices.Equal(list, naiveSettled(balances, time)) {
			t.Fatalf("SettleUp(%v) = %v", balances, list)
		}
	}
}

// TestEverySmallSettlement has all balances from -3 to 3 of up to five accounts.
func TestEverySmallSettlement(t *testing.T) {
	for count := range 6 {
		balances := repeated(-3, count)
		for {
			sum := 0
			for _, balance := range balances {
				sum += balance
			}
			list := impl.SettleUp(balances, 5)
			if sum != 0 && len(list) != 0 || sum == 0 && count > 0 && !slices.Equal(list, naiveSettled(balances, 5)) {
				t.Fatalf("SettleUp(%v) = %v", balances, list)
			}
			k := 0
			for k < count && balances[k] == 3 {
				balances[k] = -3
				k++
			}
			if k == count {
				break
			}
			balances[k]++
		}
	}
}
