package tests

import (
	"math/rand"
	"slices"
	"testing"

	"loop.example/g03317/impl"
)

// plainEntry has no number at a limit.
func plainEntry() impl.Entry {
	return impl.Entry{From: 3, To: 5, Amount: 40, Time: 9, Why: 7}
}

func pays(from int, to int, amount int) impl.Entry {
	return impl.Entry{From: from, To: to, Amount: amount, Time: 9, Why: 7}
}

func setFrom(e *impl.Entry, n int)   { e.From = n }
func setTo(e *impl.Entry, n int)     { e.To = n }
func setAmount(e *impl.Entry, n int) { e.Amount = n }
func setTime(e *impl.Entry, n int)   { e.Time = n }
func setWhy(e *impl.Entry, n int)    { e.Why = n }

func validEntries() []impl.Entry {
	return slices.Concat(
		variants(plainEntry, setFrom, 0, 1, 10, 11),
		variants(plainEntry, setTo, 0, 1, 10, 11),
		variants(plainEntry, setAmount, 1, 2, 999999999, 1000000000),
		variants(plainEntry, setTime, 0, 1, 999999, 1000000),
		variants(plainEntry, setWhy, 0, 1, 9998, 9999),
		[]impl.Entry{
			plainEntry(),
			{From: 0, To: 1, Amount: 1},
			{From: 1, To: 0, Amount: 1},
			{From: 10, To: 11, Amount: impl.MaxAmount, Time: impl.MaxTime, Why: impl.MaxId},
			{From: 11, To: 10, Amount: impl.MaxAmount, Time: impl.MaxTime, Why: impl.MaxId},
		},
	)
}

func invalidEntries() []impl.Entry {
	list := slices.Concat(
		variants(plainEntry, setFrom, append(farNumbers(), 12, 13, 5)...),
		variants(plainEntry, setTo, append(farNumbers(), 12, 13, 3)...),
		variants(plainEntry, setAmount, append(farNumbers(), 0, 1000000001)...),
		variants(plainEntry, setTime, append(farNumbers(), 1000001)...),
		variants(plainEntry, setWhy, append(farNumbers(), 10000)...),
		[]impl.Entry{{}, {From: 1}, {From: 1, To: 1, Amount: 1}, {From: 12, To: 12, Amount: 1}, {From: -1, To: -1, Amount: 1}},
	)
	for account := range impl.MaxAccounts {
		list = append(list, pays(account, account, 40))
	}
	for _, n := range farNumbers() {
		list = append(list, impl.Entry{From: n, To: n, Amount: n, Time: n, Why: n}, pays(n, n+1, 1))
	}
	return list
}

func TestEntryOk(t *testing.T) {
	for _, e := range validEntries() {
		if !impl.EntryOk(e) {
			t.Errorf("EntryOk(%+v) is false", e)
		}
	}
	for _, e := range invalidEntries() {
		if impl.EntryOk(e) {
			t.Errorf("EntryOk(%+v) is true", e)
		}
	}
}

func TestEachPairOfAccounts(t *testing.T) {
	for from := -2; from <= impl.MaxAccounts+1; from++ {
		for to := -2; to <= impl.MaxAccounts+1; to++ {
			want := from != to && min(from, to) >= 0 && max(from, to) <= 11
			if impl.EntryOk(pays(from, to, 1)) != want {
				t.Errorf("EntryOk is %v from %d to %d", !want, from, to)
			}
		}
	}
}

type book = []impl.Entry

// bookOf returns a book of as many plain entries.
func bookOf(count int) book {
	return slices.Repeat(book{plainEntry()}, count)
}

func validBooks() []book {
	list := []book{nil, {}, validEntries(), bookOf(1), bookOf(2), bookOf(impl.MaxEntries - 1), bookOf(impl.MaxEntries)}
	for _, e := range validEntries() {
		list = append(list, book{e}, book{plainEntry(), e})
	}
	return list
}

func invalidBooks() []book {
	list := []book{
		bookOf(impl.MaxEntries + 1), bookOf(impl.MaxEntries + 2), bookOf(2 * impl.MaxEntries), bookOf(1000000), make(book, 1000000),
		append(bookOf(impl.MaxEntries-1), impl.Entry{}), append(bookOf(impl.MaxEntries), impl.Entry{}), append(book{{}}, bookOf(impl.MaxEntries-1)...),
	}
	for _, e := range invalidEntries() {
		list = append(list, book{e}, book{plainEntry(), e}, book{e, plainEntry()}, book{plainEntry(), e, plainEntry()})
	}
	return list
}

func TestBookOk(t *testing.T) {
	for _, list := range validBooks() {
		if !impl.BookOk(list) {
			t.Errorf("BookOk is false for %d entries: %s", len(list), briefly(list))
		}
	}
	for _, list := range invalidBooks() {
		if impl.BookOk(list) {
			t.Errorf("BookOk is true for %d entries: %s", len(list), briefly(list))
		}
	}
}

func TestBalancesOf(t *testing.T) {
	known := []struct {
		list     book
		balances []int
	}{
		{nil, []int{0, 0, 0, 0, 0, 0, 0, 0, 0, 0, 0, 0}},
		{book{}, []int{0, 0, 0, 0, 0, 0, 0, 0, 0, 0, 0, 0}},
		{book{pays(0, 11, 6)}, []int{-6, 0, 0, 0, 0, 0, 0, 0, 0, 0, 0, 6}},
		{book{pays(11, 0, 6)}, []int{6, 0, 0, 0, 0, 0, 0, 0, 0, 0, 0, -6}},
		{book{pays(0, 1, 6), pays(0, 2, 11)}, []int{-17, 6, 11, 0, 0, 0, 0, 0, 0, 0, 0, 0}},
		// There and back, on and on, and to the same account again.
		{book{pays(4, 5, 6), pays(5, 4, 6)}, []int{0, 0, 0, 0, 0, 0, 0, 0, 0, 0, 0, 0}},
		{book{pays(4, 5, 6), pays(5, 4, 7)}, []int{0, 0, 0, 0, 1, -1, 0, 0, 0, 0, 0, 0}},
		{book{pays(4, 5, 6), pays(5, 6, 6), pays(6, 7, 2)}, []int{0, 0, 0, 0, -6, 0, 4, 2, 0, 0, 0, 0}},
		{book{pays(4, 5, 6), pays(4, 5, 6), pays(4, 5, 1)}, []int{0, 0, 0, 0, -13, 13, 0, 0, 0, 0, 0, 0}},
		// Neither the time nor the reason counts.
		{book{{From: 4, To: 5, Amount: 6, Time: impl.MaxTime, Why: impl.MaxId}, {From: 4, To: 5, Amount: 1}}, []int{0, 0, 0, 0, -7, 7, 0, 0, 0, 0, 0, 0}},
		// More than MaxAmount.
		{slices.Repeat(book{pays(8, 3, impl.MaxAmount)}, impl.MaxEntries), []int{0, 0, 0, 2000000000000, 0, 0, 0, 0, -2000000000000, 0, 0, 0}},
	}
	for _, k := range known {
		if balances := impl.BalancesOf(k.list); !slices.Equal(balances, k.balances) {
			t.Errorf("BalancesOf(%s) = %v", briefly(k.list), balances)
		}
	}
	for _, list := range invalidBooks() {
		if balances := impl.BalancesOf(list); len(balances) != 0 {
			t.Errorf("BalancesOf(%s) = %v", briefly(list), balances)
		}
	}
}

func randomEntry(rnd *rand.Rand) impl.Entry {
	from := rnd.Intn(impl.MaxAccounts)
	to := (from + 1 + rnd.Intn(impl.MaxAccounts-1)) % impl.MaxAccounts
	return impl.Entry{From: from, To: to, Amount: 1 + rnd.Intn([]int{3, 100, impl.MaxAmount}[rnd.Intn(3)]), Time: rnd.Intn(impl.MaxTime + 1), Why: rnd.Intn(impl.MaxId + 1)}
}

func randomBook(rnd *rand.Rand, count int) book {
	var list book
	for range count {
		list = append(list, randomEntry(rnd))
	}
	return list
}

// naiveBalance looks through the whole book for one account.
func naiveBalance(list book, account int) int {
	balance := 0
	for _, e := range list {
		if e.To == account {
			balance += e.Amount
		}
		if e.From == account {
			balance -= e.Amount
		}
	}
	return balance
}

func TestBalancesOfManyBooks(t *testing.T) {
	rnd := rand.New(rand.NewSource(82))
	for _, count := range append(rnd.Perm(60), impl.MaxEntries-1, impl.MaxEntries) {
		list := randomBook(rnd, count)
		balances := impl.BalancesOf(list)
		sum := 0
		for account, balance := range balances {
			sum += balance
			if balance != naiveBalance(list, account) {
				t.Errorf("the balance %d of %d entries is %d", account, count, balance)
			}
		}
		if len(balances) != 12 || sum != 0 {
			t.Errorf("%d balances have the sum %d", len(balances), sum)
		}
		// The order of the entries does not count.
		rnd.Shuffle(len(list), func(i, j int) { list[i], list[j] = list[j], list[i] })
		if again := impl.BalancesOf(list); !slices.Equal(again, balances) {
			t.Errorf("the balances of %d entries are %v and %v", count, balances, again)
		}
	}
}

func TestTollEntries(t *testing.T) {
	// The toll of this train is 17 with this base, and 100 more with each 100.
	train := up([]impl.Boat{boatOf(8, 50, 4, 1), boatOf(3, 50, 4, 1)}, []impl.Boat{boatOf(1, 50, 4, 1)})
	tariff := func(base int, weights ...int) impl.Tariff {
		return impl.Tariff{Base: base, PerArea: 1, PerClass: []int{500, 4, 900}, Weights: weights}
	}
	to := func(owner int, amount int) impl.Entry {
		return impl.Entry{From: 0, To: owner, Amount: amount, Time: 9, Why: 8}
	}
	known := []struct {
		tariff impl.Tariff
		list   book
	}{
		{tariff(5, 1), book{to(1, 17)}},
		{tariff(5, 1, 2), book{to(1, 6), to(2, 11)}},
		{tariff(5, 2, 1), book{to(1, 11), to(2, 6)}},
		{tariff(5, 1, 1), book{to(1, 9), to(2, 8)}},
		{tariff(105, 1, 1, 1), book{to(1, 39), to(2, 39), to(3, 39)}},
		{tariff(106, 1, 1, 1), book{to(1, 40), to(2, 39), to(3, 39)}},
		// A share of 0 has no entry, wherever it is, and the other owners keep their accounts.
		{tariff(5, 0, 1), book{to(2, 17)}},
		{tariff(5, 1, 0), book{to(1, 17)}},
		{tariff(5, 0, 1, 0, 2, 0), book{to(2, 6), to(4, 11)}},
		{tariff(5, onlyOne(11, 10, 1)...), book{to(11, 17)}},
		{tariff(5, 1, 1000), book{to(2, 17)}},
		{tariff(5, repeated(1000, 11)...), book{to(1, 2), to(2, 2), to(3, 2), to(4, 2), to(5, 2), to(6, 2), to(7, 1), to(8, 1), to(9, 1), to(10, 1), to(11, 1)}},
	}
	for _, k := range known {
		if list := impl.TollEntries(k.tariff, train, 9); !slices.Equal(list, k.list) {
			t.Errorf("TollEntries(%+v) = %v", k.tariff, list)
		}
	}
	// A toll of 0 and a toll of 1.
	free := impl.Tariff{PerClass: []int{0, 0, 1}, Weights: []int{1, 3, 2}}
	if list := impl.TollEntries(free, train, 9); len(list) != 0 {
		t.Errorf("TollEntries of nothing = %v", list)
	}
	if list := impl.TollEntries(free, down([]impl.Boat{boatOf(9999, 9, 9, 2)}), 0); !slices.Equal(list, book{{To: 2, Amount: 1, Why: 9999}}) {
		t.Errorf("TollEntries of 1 = %v", list)
	}
}

func TestTimesOfTolls(t *testing.T) {
	for _, time := range []int{0, 1, 999999, 1000000} {
		want := book{{To: 1, Amount: 6, Time: time, Why: 2}, {To: 2, Amount: 11, Time: time, Why: 2}}
		f := impl.Tariff{Base: 17, PerClass: []int{0, 0, 0}, Weights: []int{1, 2}}
		if list := impl.TollEntries(f, down(row(2, 1)), time); !slices.Equal(list, want) {
			t.Errorf("TollEntries at %d = %v", time, list)
		}
	}
	for _, time := range append(farNumbers(), 1000001) {
		if list := impl.TollEntries(plainTariff(), down(row(2, 1)), time); len(list) != 0 {
			t.Errorf("TollEntries at %d = %v", time, list)
		}
	}
}

func TestNoEntriesWithoutATariffOrATrain(t *testing.T) {
	for _, f := range invalidTariffs() {
		for _, train := range append(validTrains(), impl.Train{}) {
			if list := impl.TollEntries(f, train, 9); len(list) != 0 {
				t.Errorf("TollEntries(%s, %v) = %v", briefly(f), train, list)
			}
		}
	}
	for _, train := range invalidTrains() {
		for _, f := range append(validTariffs(), impl.Tariff{}) {
			if list := impl.TollEntries(f, train, 9); len(list) != 0 {
				t.Errorf("TollEntries(%+v, %s) = %v", f, brief(train), list)
			}
		}
	}
}

// naiveEntries divides the toll that naiveToll counts.
func naiveEntries(f impl.Tariff, train impl.Train, time int) book {
	var list book
	for k, share := range naiveShares(naiveToll(f, train), f.Weights) {
		if share != 0 {
			list = append(list, impl.Entry{From: 0, To: k + 1, Amount: share, Time: time, Why: train.Rows[0][0].Id})
		}
	}
	return list
}

func TestManyTollEntries(t *testing.T) {
	rnd := rand.New(rand.NewSource(83))
	missing := 0
	for range 3000 {
		f, train, time := randomTariff(rnd), randomTrain(rnd, rnd.Intn(1000)), rnd.Intn(impl.MaxTime+1)
		list := impl.TollEntries(f, train, time)
		if !slices.Equal(list, naiveEntries(f, train, time)) {
			t.Fatalf("TollEntries(%+v, %v, %d) = %v", f, train, time, list)
		}
		if len(list) < len(f.Weights) {
			missing++
		}
	}
	if missing < 300 || missing > 2700 {
		t.Errorf("%d of 3000 tolls leave an owner out", missing)
	}
}
