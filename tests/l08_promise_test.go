package tests

import (
	"math/rand"
	"slices"
	"testing"

	"loop.example/g03317/impl"
)

// TestTollsAreDividedWithoutARest compares what all owners get with the toll, and each of them with the others.
func TestTollsAreDividedWithoutARest(t *testing.T) {
	rnd := rand.New(rand.NewSource(89))
	for range 3000 {
		f, train := randomTariff(rnd), randomTrain(rnd, rnd.Intn(1000))
		list, ok := impl.PostEntries(nil, impl.TollEntries(f, train, rnd.Intn(impl.MaxTime+1)))
		balances := impl.BalancesOf(list)
		if !ok || len(balances) != impl.MaxAccounts || balances[0] != -impl.TollOf(f, train) {
			t.Fatalf("of the toll %d, by %+v, %v is paid", impl.TollOf(f, train), f, balances)
		}
		weights, sum := append([]int{0}, f.Weights...), 0
		for _, weight := range weights {
			sum += weight
		}
		paid := 0
		for account, balance := range balances[1:] {
			paid += balance
			weight := 0
			if account+1 < len(weights) {
				weight = weights[account+1]
			}
			// Nobody gets 1 more or less than what is due without rounding.
			if due := balances[0] * -weight; balance*sum <= due-sum || balance*sum >= due+sum || balance < 0 {
				t.Fatalf("by %+v, account %d gets %d of %d", f, account+1, balance, -balances[0])
			}
		}
		if paid != -balances[0] {
			t.Fatalf("by %+v, %d of %d is paid", f, paid, -balances[0])
		}
	}
}

// TestEveryTollOfATariff has all tolls from 0 on, with all small weights of three owners.
func TestEveryTollOfATariff(t *testing.T) {
	for code := 1; code < 125; code++ {
		weights := []int{code % 5, code / 5 % 5, code / 25}
		for toll := range 40 {
			f := impl.Tariff{Base: toll, PerClass: []int{0, 0, 0}, Weights: weights}
			sum := 0
			for _, e := range impl.TollEntries(f, up(row(4)), 1) {
				if e.Amount <= 0 || weights[e.To-1] == 0 || e.From != 0 {
					t.Errorf("of %d by %v there is %+v", toll, weights, e)
				}
				sum += e.Amount
			}
			if sum != toll {
				t.Errorf("of %d by %v, %d is paid", toll, weights, sum)
			}
		}
	}
}

// checkSettled looks whether the debts in a book are settled, and by few entries; the book may have no room for these.
func checkSettled(t *testing.T, list book, time int) {
	t.Helper()
	balances := impl.BalancesOf(list)
	open := len(slices.DeleteFunc(slices.Clone(balances), func(n int) bool { return n == 0 }))
	settlement := impl.SettleUp(balances, time)
	// The last entry settles two accounts, and each other one at least one.
	if len(settlement) > max(0, open-1) || 2*len(settlement) < open {
		t.Errorf("%d entries settle %d accounts", len(settlement), open)
	}
	for _, e := range settlement {
		if !impl.EntryOk(e) || e.Time != time || e.Why != 0 || balances[e.From] <= 0 || balances[e.To] >= 0 {
			t.Errorf("the balances %v are settled by %+v", balances, e)
		}
	}
	for account, settled := range impl.BalancesOf(settlement) {
		if balances[account]+settled != 0 {
			t.Errorf("of the balances %v, that of %d is not settled by %v", balances, account, settlement)
		}
	}
}

func TestDebtsAreSettledByFewEntries(t *testing.T) {
	rnd := rand.New(rand.NewSource(90))
	checkSettled(t, nil, 0)
	checkSettled(t, book{pays(0, 1, impl.MaxAmount)}, impl.MaxTime)
	for range 3000 {
		var list book
		for range rnd.Intn(40) {
			e := randomEntry(rnd)
			e.Amount = 1 + e.Amount%([]int{2, 9, impl.MaxAmount / 50}[rnd.Intn(3)])
			list = append(list, e)
		}
		checkSettled(t, list, rnd.Intn(impl.MaxTime+1))
	}
}

// TestPassagesUntilTheBookIsFull posts the tolls of one passage after the other, and has all settled at the end.
func TestPassagesUntilTheBookIsFull(t *testing.T) {
	rnd := rand.New(rand.NewSource(91))
	for range 20 {
		f := randomTariff(rnd)
		var list book
		paid := 0
		for time := range 3000 {
			train := randomTrain(rnd, rnd.Intn(1000))
			more := impl.TollEntries(f, train, time)
			posted, ok := impl.PostEntries(list, more)
			if ok != (len(list)+len(more) <= impl.MaxEntries) || !ok && !slices.Equal(posted, list) {
				t.Fatalf("%d entries more in a book of %d: %v", len(more), len(list), ok)
			}
			if !ok {
				break
			}
			list, paid = posted, paid+impl.TollOf(f, train)
		}
		if balances := impl.BalancesOf(list); len(list) > impl.MaxEntries || balances[0] != -paid {
			t.Fatalf("%d is paid in %d entries, and the balances are %v", paid, len(list), balances)
		}
		checkSettled(t, list, impl.MaxTime)
	}
}

// TestBooksAreReadFromTheirTexts writes a whole book down, and reads it again entry by entry.
func TestBooksAreReadFromTheirTexts(t *testing.T) {
	list := randomBook(rand.New(rand.NewSource(92)), impl.MaxEntries)
	var again book
	for _, e := range list {
		read, ok := impl.ParseEntry(impl.FormatEntry(e))
		posted, posts := impl.PostEntries(again, book{read})
		if !ok || !posts {
			t.Fatalf("%+v is read as %+v, %v, and posted: %v", e, read, ok, posts)
		}
		again = posted
	}
	if !slices.Equal(again, list) {
		t.Error("the book that is read is another one")
	}
}
