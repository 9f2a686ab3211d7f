package tests

import (
	"math/rand"
	"slices"
	"testing"

	"loop.example/g03317/impl"
)

func rejectPost(t *testing.T, list book, more book) {
	t.Helper()
	if posted, ok := impl.PostEntries(list, more); ok || !slices.Equal(posted, list) {
		t.Errorf("PostEntries(%s, %s) = %s, %v", briefly(list), briefly(more), briefly(posted), ok)
	}
}

func acceptPost(t *testing.T, list book, more book) {
	t.Helper()
	if posted, ok := impl.PostEntries(list, more); !ok || !slices.Equal(posted, slices.Concat(list, more)) {
		t.Errorf("PostEntries(%s, %s) = %s, %v", briefly(list), briefly(more), briefly(posted), ok)
	}
}

func TestPostEntries(t *testing.T) {
	a, b, c := pays(1, 2, 3), pays(4, 5, 6), pays(2, 1, 3)
	known := []struct{ list, more, want book }{
		{nil, nil, nil}, {nil, book{a}, book{a}}, {book{a}, nil, book{a}}, {book{}, book{}, nil},
		{book{a}, book{b}, book{a, b}}, {book{b}, book{a}, book{b, a}}, {book{a}, book{a}, book{a, a}}, {book{a}, book{c}, book{a, c}},
		{book{a, b}, book{c, b, a}, book{a, b, c, b, a}}, {nil, book{c, b, a}, book{c, b, a}}, {book{c, b, a}, book{}, book{c, b, a}},
	}
	for _, k := range known {
		if posted, ok := impl.PostEntries(k.list, k.more); !ok || !slices.Equal(posted, k.want) {
			t.Errorf("PostEntries(%v, %v) = %v, %v", k.list, k.more, posted, ok)
		}
	}
	for _, e := range validEntries() {
		acceptPost(t, nil, book{e})
		acceptPost(t, book{a}, book{b, e})
		acceptPost(t, book{e, a}, book{b})
		acceptPost(t, book{e}, nil)
	}
}

func TestPostsUpToTheLimit(t *testing.T) {
	const most = impl.MaxEntries
	for _, count := range []int{0, 1, 2, 999, 1000, 1001, most - 2, most - 1, most} {
		acceptPost(t, bookOf(count), bookOf(most-count))
		acceptPost(t, bookOf(count), nil)
		rejectPost(t, bookOf(count), bookOf(most-count+1))
		rejectPost(t, bookOf(count), bookOf(most+1))
		rejectPost(t, bookOf(count), append(bookOf(most-count), impl.Entry{}))
	}
	rejectPost(t, bookOf(most), book{{}})
	// A book that is too long stays as it is, also without an entry more.
	for _, more := range []book{nil, {}, bookOf(1), {{}}} {
		rejectPost(t, bookOf(most+1), more)
		rejectPost(t, bookOf(most+7), more)
	}
}

func TestPostsOfInvalidEntries(t *testing.T) {
	a, b := pays(1, 2, 3), pays(4, 5, 6)
	for _, e := range invalidEntries() {
		// In what is posted, at any place.
		rejectPost(t, nil, book{e})
		rejectPost(t, book{a}, book{e})
		rejectPost(t, book{a}, book{e, b})
		rejectPost(t, book{a}, book{b, e})
		rejectPost(t, book{a, b}, book{b, e, a})
		// In the book, whatever is posted.
		rejectPost(t, book{e}, nil)
		rejectPost(t, book{e}, book{a})
		rejectPost(t, book{a, e}, book{b})
		rejectPost(t, book{e, a}, book{})
		rejectPost(t, book{a, e, b}, book{e})
	}
	rejectPost(t, bookOf(5), append(bookOf(1000), impl.Entry{}))
	rejectPost(t, append(bookOf(1000), impl.Entry{}), bookOf(5))
}

func TestVeryLongBooks(t *testing.T) {
	long := bookOf(1000000)
	for _, few := range []book{nil, bookOf(1), {{}}} {
		rejectPost(t, long, few)
		rejectPost(t, few, long)
		rejectPost(t, few, make(book, 1000000))
	}
	rejectPost(t, long, long)
	rejectPost(t, make(book, 1000000), long)
}

// naivePosted is right just if the whole is a book.
func naivePosted(list book, more book) (book, bool) {
	whole := slices.Concat(list, more)
	for _, e := range whole {
		if !impl.EntryOk(e) {
			return list, false
		}
	}
	if len(whole) > 2000 {
		return list, false
	}
	return whole, true
}

func TestManyPosts(t *testing.T) {
	rnd := rand.New(rand.NewSource(84))
	results := map[bool]int{}
	for range 500 {
		list, more := randomBook(rnd, rnd.Intn(30)), randomBook(rnd, rnd.Intn(30))
		if rnd.Intn(3) == 0 {
			list = append(bookOf(impl.MaxEntries-30), list...)
		}
		for _, some := range []book{list, more} {
			if len(some) > 0 && rnd.Intn(6) == 0 {
				some[rnd.Intn(len(some))].Amount = 0
			}
		}
		posted, ok := impl.PostEntries(list, more)
		want, wanted := naivePosted(list, more)
		if ok != wanted || !slices.Equal(posted, want) {
			t.Fatalf("PostEntries(%s, %s) = %s, %v", briefly(list), briefly(more), briefly(posted), ok)
		}
		results[ok]++
	}
	if results[true] < 100 || results[false] < 100 {
		t.Errorf("the results are %v", results)
	}
}

// TestOnePostOrSeveral divides what is posted at every place.
func TestOnePostOrSeveral(t *testing.T) {
	list, more := bookOf(impl.MaxEntries-20), randomBook(rand.New(rand.NewSource(85)), 20)
	whole, ok := impl.PostEntries(list, more)
	if !ok {
		t.Fatal("the book has no room for 20 entries")
	}
	for k := range len(more) + 1 {
		first, _ := impl.PostEntries(list, more[:k])
		both, ok := impl.PostEntries(first, more[k:])
		if !ok || !slices.Equal(both, whole) {
			t.Errorf("with %d entries first, the book has %d, %v", k, len(both), ok)
		}
	}
}
