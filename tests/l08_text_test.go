package tests

import (
	"math/rand"
	"regexp"
	"strconv"
	"strings"
	"testing"

	"loop.example/g03317/impl"
)

func TestTextsOfEntries(t *testing.T) {
	known := []struct {
		entry impl.Entry
		text  string
	}{
		{impl.Entry{From: 0, To: 2, Amount: 11, Time: 9, Why: 5}, "0 2 11 9 5"},
		{impl.Entry{From: 2, To: 0, Amount: 11, Time: 9, Why: 5}, "2 0 11 9 5"},
		{impl.Entry{From: 0, To: 1, Amount: 1}, "0 1 1 0 0"},
		{impl.Entry{From: 1, To: 0, Amount: 1}, "1 0 1 0 0"},
		{impl.Entry{From: 10, To: 11, Amount: 100, Time: 20, Why: 30}, "10 11 100 20 30"},
		{impl.Entry{From: 11, To: 10, Amount: impl.MaxAmount, Time: impl.MaxTime, Why: impl.MaxId}, "11 10 1000000000 1000000 9999"},
		{impl.Entry{From: 3, To: 4, Amount: 5, Time: 6, Why: 7}, "3 4 5 6 7"},
	}
	for _, k := range known {
		if s := impl.FormatEntry(k.entry); s != k.text {
			t.Errorf("FormatEntry(%+v) = %q", k.entry, s)
		}
		if e, ok := impl.ParseEntry(k.text); !ok || e != k.entry {
			t.Errorf("ParseEntry(%q) = %+v, %v", k.text, e, ok)
		}
	}
	for _, e := range invalidEntries() {
		if s := impl.FormatEntry(e); s != "" {
			t.Errorf("FormatEntry(%+v) = %q", e, s)
		}
	}
}

func TestEntriesAreReadFromTheirTexts(t *testing.T) {
	texts := map[string]impl.Entry{}
	for _, e := range append(validEntries(), randomBook(rand.New(rand.NewSource(87)), 5000)...) {
		s := impl.FormatEntry(e)
		want := strconv.Itoa(e.From) + " " + strconv.Itoa(e.To) + " " + strconv.Itoa(e.Amount) + " " + strconv.Itoa(e.Time) + " " + strconv.Itoa(e.Why)
		if s != want {
			t.Errorf("FormatEntry(%+v) = %q", e, s)
		}
		if read, ok := impl.ParseEntry(s); !ok || read != e {
			t.Errorf("ParseEntry(%q) = %+v, %v", s, read, ok)
		}
		if other, found := texts[s]; found && other != e {
			t.Errorf("%+v and %+v have the text %q", e, other, s)
		}
		texts[s] = e
	}
}

func TestParseEntryRejects(t *testing.T) {
	plain := "0 2 11 9 5"
	rejected := []string{
		"", " ", "0", "     ", "    0",
		// Numbers are missing, too many, or not there.
		"0 2 11 9", "0 2 11", "0 2 11 9 5 0", "0 2 11 9 5 5", "0 2 11 9 ", " 2 11 9 5", "0  11 9 5", "0 2  9 5", "0 2 11  5", "021195",
		// Other spaces.
		" " + plain, plain + " ", "0  2 11 9 5", "0 2  11 9 5", "0 2 11  9 5", "0 2 11 9  5", "0 2 11 9 5  ", "0\t2\t11\t9\t5", "0 2 11 9\t5", plain + "\n",
		plain + "\r\n", "\n" + plain, "0\n2 11 9 5", "0\u00a02 11 9 5", "0 2 1 1 9 5", "0\x002 11 9 5", plain + "\x00", "\x00" + plain,
		// Numbers are written in another way.
		"00 2 11 9 5", "0 02 11 9 5", "0 2 011 9 5", "0 2 11 09 5", "0 2 11 9 05", "0 2 11 00 5", "0 2 11 9 00", "+0 2 11 9 5", "-0 2 11 9 5", "0 +2 11 9 5",
		"0 2 +11 9 5", "0 2 11 +9 5", "0 2 11 9 +5", "0 2 11 -0 5", "0 2 11 9 -0", "0 2 11 9 5.0", "0 2 1e1 9 5", "0 2 0xb 9 5", "0 2 1_1 9 5", "0 2 11 9 b",
		"0 2 11 9 \u0665", "0 2 \uff11\uff11 9 5", "0 2 11 9 x", "a b c d e", "0,2,11,9,5", "0:2:11:9:5", "0 2 11 9 5;", "(0 2 11 9 5)",
		// Entries that are not valid.
		"0 0 11 9 5", "2 2 11 9 5", "11 11 11 9 5", "12 2 11 9 5", "0 12 11 9 5", "12 13 11 9 5", "-1 2 11 9 5", "0 -2 11 9 5", "0 2 0 9 5", "0 2 -11 9 5",
		"0 2 11 -9 5", "0 2 11 9 -5", "0 2 1000000001 9 5", "0 2 11 1000001 5", "0 2 11 9 10000", "0 0 0 0 0", "1 0 0 0 0",
		// Numbers that are valid modulo 2^32 or 2^64.
		"4294967296 2 11 9 5", "0 4294967298 11 9 5", "0 2 4294967307 9 5", "0 2 11 4294967305 5", "0 2 11 9 4294967301",
		"18446744073709551616 2 11 9 5", "0 18446744073709551618 11 9 5", "0 2 18446744073709551627 9 5", "0 2 11 18446744073709551625 5", "0 2 11 9 18446744073709551621",
		"-9223372036854775808 2 11 9 5", "0 2 9223372036854775807 9 5", "0 2 9223372036854775808 9 5", "0 2 11 9 99999999999999999999999999999999",
		// Texts of any length and any bytes.
		plain + plain, plain + " " + plain, strings.Repeat(plain+" ", 100000), strings.Repeat("0 2 11 9 5", 60), strings.Repeat("0", 100000), strings.Repeat(" ", 100000),
		strings.Repeat(" ", 595) + plain, plain + strings.Repeat(" ", 590), plain + strings.Repeat(" ", 591), strings.Repeat(" ", 100000) + plain, plain + strings.Repeat(" ", 100000),
		strings.Repeat("0", 100000) + plain, plain + strings.Repeat("0", 100000), "0 2 11 9 " + strings.Repeat("0", 500) + "5", everyByte(), plain + everyByte(),
		strings.Repeat("1 ", 300), strings.Repeat("1 ", 24), strings.Repeat("1 ", 25), "\xff", "\xff 2 11 9 5", "0 2 11 9 5\xff", "0 2 11 9 \xc3\x28",
	}
	for _, s := range rejected {
		if e, ok := impl.ParseEntry(s); ok || e != (impl.Entry{}) {
			t.Errorf("ParseEntry(%.200q) = %+v, %v", s, e, ok)
		}
	}
}

var entryPattern = regexp.MustCompile(`\A([0-9]|1[01]) ([0-9]|1[01]) ([1-9][0-9]{0,8}|1000000000) (0|[1-9][0-9]{0,5}|1000000) (0|[1-9][0-9]{0,3})\z`)

// checkEntryText has a pattern for the numbers with their limits; the accounts are compared as texts.
func checkEntryText(t *testing.T, s string) bool {
	t.Helper()
	parts := entryPattern.FindStringSubmatch(s)
	want := parts != nil && parts[1] != parts[2]
	e, ok := impl.ParseEntry(s)
	if ok != want || ok && (!impl.EntryOk(e) || impl.FormatEntry(e) != s) || !ok && e != (impl.Entry{}) {
		t.Errorf("ParseEntry(%q) = %+v, %v", s, e, ok)
	}
	return ok
}

func TestEntriesWithAnotherByte(t *testing.T) {
	for _, s := range []string{"0 2 11 9 5", "11 10 1000000000 1000000 9999", "1 0 999999999 0 0", "10 1 100 999999 9990"} {
		for _, changed := range changesOf(s) {
			checkEntryText(t, changed)
		}
	}
}

// TestShuffledEntries is for texts of the bytes that texts have, near those of entries.
func TestShuffledEntries(t *testing.T) {
	rnd := rand.New(rand.NewSource(88))
	accepted := 0
	for range 20000 {
		s := []byte(impl.FormatEntry(randomEntry(rnd)))
		for range 1 + rnd.Intn(3) {
			s[rnd.Intn(len(s))] = "0123456789 +-"[rnd.Intn(13)]
		}
		if checkEntryText(t, string(s)) {
			accepted++
		}
	}
	if accepted < 1000 || accepted > 19000 {
		t.Errorf("%d shuffled texts are accepted", accepted)
	}
}

// TestEntriesOfNumbersAtTheLimits writes each number around its limits into the text of a valid entry.
func TestEntriesOfNumbersAtTheLimits(t *testing.T) {
	numbers := []string{"", "-1", "0", "1", "2", "9", "10", "11", "12", "99", "100", "9998", "9999", "10000", "99999", "999999", "1000000", "1000001", "9999999",
		"999999999", "1000000000", "1000000001", "9999999999", "10000000000", "4294967297", "18446744073709551617"}
	for place := range 5 {
		for _, n := range numbers {
			for _, s := range []string{"0 2 11 9 5", "11 7 11 9 5"} {
				fields := strings.Split(s, " ")
				fields[place] = n
				checkEntryText(t, strings.Join(fields, " "))
			}
		}
	}
}
