package tests

import (
	"slices"
	"testing"

	"loop.example/g03317/impl"
)

// givenBooks leaves out the books with very many entries.
func givenBooks() []book {
	tooMany := func(list book) bool { return len(list) > impl.MaxEntries+2 }
	return slices.DeleteFunc(append(validBooks(), invalidBooks()...), tooMany)
}

// roomyBook returns the same book with spare capacity behind it, and all of it.
func roomyBook(list book) (book, book) {
	whole := append(slices.Clone(list), pays(6, 7, 77), pays(7, 8, 88), pays(8, 9, 99))
	return whole[:len(list)], whole
}

// posts are what is posted: nothing, valid entries and others.
func posts() []book {
	return []book{nil, {}, {pays(1, 2, 3)}, {pays(1, 2, 3), pays(2, 3, 4)}, {{}}, {pays(1, 2, 3), pays(2, 2, 4)}}
}

func TestBooksAreNotChanged(t *testing.T) {
	for _, given := range givenBooks() {
		for _, post := range posts() {
			list, all := roomyBook(given)
			more, allMore := roomyBook(post)
			allBefore, allMoreBefore := slices.Clone(all), slices.Clone(allMore)
			impl.BookOk(list)
			impl.BalancesOf(list)
			impl.PostEntries(list, more)
			impl.PostEntries(more, list)
			if !slices.Equal(all, allBefore) || !slices.Equal(allMore, allMoreBefore) {
				t.Errorf("%s and %v have become %s and %v", briefly(allBefore), allMoreBefore, briefly(all), allMore)
			}
		}
	}
}

func TestBooksShareNoMemory(t *testing.T) {
	for _, given := range givenBooks() {
		for _, post := range posts() {
			list, _ := roomyBook(given)
			more, _ := roomyBook(post)
			for _, pair := range [][2]book{{list, more}, {more, list}, {list, list}, {list, list[len(list):]}, {list[:len(list)/2], list[len(list)/2:]}} {
				posted, _ := impl.PostEntries(pair[0], pair[1])
				if b := blockOf(posted); b.touches(blockOf(pair[0])) || b.touches(blockOf(pair[1])) {
					t.Errorf("a book of %d entries to which %d are posted shares memory", len(pair[0]), len(pair[1]))
				}
			}
		}
	}
}

// TestWhatLiesBehindABookIsPosted posts the entries that lie behind the book in the same memory.
func TestWhatLiesBehindABookIsPosted(t *testing.T) {
	list, all := roomyBook(book{pays(1, 2, 3), pays(2, 3, 4)})
	for _, more := range []book{all[2:], all[3:], all[1:], all, list, all[4:]} {
		want := slices.Concat(list, more)
		if posted, ok := impl.PostEntries(list, more); !ok || !slices.Equal(posted, want) {
			t.Errorf("PostEntries = %v, %v, not %v", posted, ok, want)
		}
	}
}

func TestPostsAreNewEachTime(t *testing.T) {
	list, more := book{pays(1, 2, 3)}, book{pays(4, 5, 6)}
	for _, post := range []book{nil, more, {{}}} {
		first, accepted := impl.PostEntries(list, post)
		want := slices.Clone(first)
		clear(first[:cap(first)])
		if again, ok := impl.PostEntries(list, post); ok != accepted || !slices.Equal(again, want) || len(want) == 0 {
			t.Errorf("PostEntries = %v, and %v before", again, want)
		}
	}
}

// TestTheSameBookIsContinuedTwice appends different entries to one result.
func TestTheSameBookIsContinuedTwice(t *testing.T) {
	list, _ := impl.PostEntries(bookOf(3), bookOf(4))
	a, _ := impl.PostEntries(list, book{pays(1, 2, 3)})
	b, _ := impl.PostEntries(list, book{pays(4, 5, 6)})
	if a[7] != pays(1, 2, 3) || b[7] != pays(4, 5, 6) || !slices.Equal(list, bookOf(7)) {
		t.Errorf("the books are %v, %v and %v", list, a, b)
	}
}

func TestTariffsAreNotChanged(t *testing.T) {
	for _, given := range slices.Concat(validTariffs(), invalidTariffs()) {
		for _, train := range []impl.Train{up(row(1)), down(row(2, 3), row(4)), {}} {
			tolls, weights := append(slices.Clone(given.PerClass), 77, 78), append(slices.Clone(given.Weights), 87, 88)
			tollsBefore, weightsBefore := slices.Clone(tolls), slices.Clone(weights)
			f := given
			f.PerClass, f.Weights = tolls[:len(given.PerClass)], weights[:len(given.Weights)]
			k := &kept{}
			k.trains = append(k.trains, k.roomy(train))
			k.trainsBefore = slices.Clone(k.trains)
			impl.TariffOk(f)
			impl.TollOf(f, k.trains[0])
			for _, time := range []int{-1, 0, 9} {
				list := impl.TollEntries(f, k.trains[0], time)
				clear(list[:cap(list)])
			}
			if !slices.Equal(tolls, tollsBefore) || !slices.Equal(weights, weightsBefore) || !k.isUnchanged() {
				t.Errorf("%s or %v is changed", briefly(given), train)
			}
		}
	}
}

func TestTollEntriesAreNewEachTime(t *testing.T) {
	first := impl.TollEntries(plainTariff(), down(row(2, 1)), 9)
	want := slices.Clone(first)
	clear(first[:cap(first)])
	if again := impl.TollEntries(plainTariff(), down(row(2, 1)), 9); !slices.Equal(again, want) || len(want) != 2 {
		t.Errorf("TollEntries = %v, and %v before", again, want)
	}
}

func TestBalancesAreNotChanged(t *testing.T) {
	for _, given := range [][]int{nil, {0, 0}, {1, -1}, {-17, 6, 11}, {5, 4, -3, -6}, {1, 1}, {-1000000001, 1000000001}, append(repeated(1, 11), -11), repeated(0, 13)} {
		for _, time := range []int{-1, 0, 9} {
			all := append(slices.Clone(given), 77, -77)
			before := slices.Clone(all)
			list := impl.SettleUp(all[:len(given)], time)
			again := impl.SettleUp(all[:len(given)], time)
			if !slices.Equal(all, before) || !slices.Equal(list, again) {
				t.Errorf("%v have become %v; SettleUp = %v and %v", before, all, list, again)
			}
			clear(list[:cap(list)])
			if third := impl.SettleUp(all[:len(given)], time); !slices.Equal(again, third) {
				t.Errorf("SettleUp(%v) = %v, and %v before", given, third, again)
			}
		}
	}
}

func TestBalancesAreNewEachTime(t *testing.T) {
	for _, list := range []book{nil, {pays(1, 2, 3)}, validEntries()} {
		first := impl.BalancesOf(list)
		want := slices.Clone(first)
		clear(first[:cap(first)])
		if again := impl.BalancesOf(list); !slices.Equal(again, want) || len(want) != impl.MaxAccounts {
			t.Errorf("BalancesOf = %v, and %v before", again, want)
		}
	}
}

func TestNilAndEmptySlicesInTolls(t *testing.T) {
	for _, f := range []impl.Tariff{{PerClass: []int{0, 0, 0}}, {PerClass: []int{0, 0, 0}, Weights: []int{}}, {Weights: []int{1}}, {PerClass: []int{}, Weights: []int{1}}} {
		if impl.TariffOk(f) || impl.TollOf(f, up(row(1))) != 0 || len(impl.TollEntries(f, up(row(1)), 0)) != 0 {
			t.Errorf("%+v has a toll", f)
		}
	}
	for _, list := range []book{nil, {}, make(book, 0, 5)} {
		for _, more := range []book{nil, {}, make(book, 0, 5)} {
			if posted, ok := impl.PostEntries(list, more); !ok || len(posted) != 0 {
				t.Errorf("PostEntries of nothing = %v, %v", posted, ok)
			}
		}
		if !impl.BookOk(list) || !slices.Equal(impl.BalancesOf(list), repeated(0, 12)) {
			t.Errorf("an empty book is not valid")
		}
	}
	for _, balances := range [][]int{nil, {}, make([]int, 0, 5)} {
		if list := impl.SettleUp(balances, 0); len(list) != 0 {
			t.Errorf("SettleUp of nothing = %v", list)
		}
	}
}
