package tests

import (
	"math/rand"
	"regexp"
	"strconv"
	"strings"
	"testing"

	"loop.example/g03317/impl"
)

// plainText is the text of a plain boat.
func plainText(id int) string {
	return strconv.Itoa(id) + ":30:5:8:6:1"
}

func TestTextsOfTrains(t *testing.T) {
	tug := impl.Boat{Id: 1, Length: 30, Width: 5, Draught: 8, Speed: 6, Class: impl.ClassCargo}
	boat := impl.Boat{Id: 2, Length: 12, Width: 4, Draught: 3, Speed: 9, Class: impl.ClassSmall}
	least := impl.Boat{Id: 1, Length: 1, Width: 1, Draught: 1, Speed: 1, Class: impl.ClassPassenger}
	most := impl.Boat{Id: 9999, Length: 200, Width: 30, Draught: 100, Speed: 50, Class: impl.ClassSmall}
	known := []struct {
		train impl.Train
		text  string
	}{
		{up([]impl.Boat{tug}), "^1:30:5:8:6:1"},
		{down([]impl.Boat{tug}), "v1:30:5:8:6:1"},
		{up([]impl.Boat{tug, boat}), "^1:30:5:8:6:1+2:12:4:3:9:2"},
		{down([]impl.Boat{boat, tug}), "v2:12:4:3:9:2+1:30:5:8:6:1"},
		{up([]impl.Boat{tug}, []impl.Boat{boat}), "^1:30:5:8:6:1/2:12:4:3:9:2"},
		{down([]impl.Boat{most}, []impl.Boat{boat, least}), "v9999:200:30:100:50:2/2:12:4:3:9:2+1:1:1:1:1:0"},
		{up([]impl.Boat{least}), "^1:1:1:1:1:0"},
		{down(row(3, 1), row(2), row(6, 5, 4)), "v" + plainText(3) + "+" + plainText(1) + "/" + plainText(2) + "/" +
			plainText(6) + "+" + plainText(5) + "+" + plainText(4)},
	}
	for _, k := range known {
		if s := impl.FormatTrain(k.train); s != k.text {
			t.Errorf("FormatTrain(%v) = %q", k.train, s)
		}
		if train, ok := impl.ParseTrain(k.text); !ok || !sameTrain(train, k.train) {
			t.Errorf("ParseTrain(%q) = %v, %v", k.text, train, ok)
		}
	}
}

// TestTheLongestTexts has texts with all digits that there can be, in one row and in MaxBoats rows.
func TestTheLongestTexts(t *testing.T) {
	for _, separator := range []string{"+", "/"} {
		var boats []string
		for id := 9999; id > 9999-impl.MaxBoats; id-- {
			boats = append(boats, strconv.Itoa(id)+":200:30:100:50:2")
		}
		for _, direction := range []string{"^", "v"} {
			s := direction + strings.Join(boats, separator)
			train, ok := impl.ParseTrain(s)
			if !ok || len(s) != 126 || len(impl.IdsOf(train)) != impl.MaxBoats || impl.FormatTrain(train) != s {
				t.Errorf("ParseTrain(%q) = %v, %v", s, train, ok)
			}
			rejectText(t, s+separator+"1:1:1:1:1:0")
			rejectText(t, s+separator)
			rejectText(t, s+"0")
		}
	}
}

func TestTrainsAreReadFromTheirTexts(t *testing.T) {
	texts := map[string]impl.Train{}
	for _, train := range someTrains(45, 3000) {
		s := impl.FormatTrain(train)
		if s == "" {
			t.Errorf("%v has no text", train)
		}
		if read, ok := impl.ParseTrain(s); !ok || !sameTrain(read, train) {
			t.Errorf("ParseTrain(%q) = %v, %v", s, read, ok)
		}
		if other, found := texts[s]; found && !sameTrain(other, train) {
			t.Errorf("%v and %v have the text %q", train, other, s)
		}
		texts[s] = train
	}
}

func rejectText(t *testing.T, s string) {
	t.Helper()
	if train, ok := impl.ParseTrain(s); ok || !isZeroTrain(train) {
		t.Errorf("ParseTrain(%.200q) = %v, %v", s, train, ok)
	}
}

func TestParseTrainRejects(t *testing.T) {
	rejected := []string{
		"", "^", "v", "^v", "/", "+", ":", "0", "1", "^0", "^1", "^:::::", "v:::::", "^/", "^+", "^/+", "v+/", "^1:", "^:1",
		// A direction is missing, another one, doubled, or not at the beginning.
		"1:30:5:8:6:1", "V1:30:5:8:6:1", ">1:30:5:8:6:1", "^^1:30:5:8:6:1", "vv1:30:5:8:6:1", "v^1:30:5:8:6:1", "^v1:30:5:8:6:1",
		" ^1:30:5:8:6:1", "1:30:5:8:6:1^", "1:30:5:8:6:1v", "/1:30:5:8:6:1", "+1:30:5:8:6:1",
		// Numbers are missing, too many, or not there.
		"^1:30:5:8:6", "^1:30:5:8", "^1", "^1:30:5:8:6:1:1", "^1:30:5:8:6:1:", "^:1:30:5:8:6:1", "^:30:5:8:6:1", "^1::5:8:6:1",
		"^1:30::8:6:1", "^1:30:5::6:1", "^1:30:5:8::1", "^1:30:5:8:6:", "^1:30:5:8::6:1",
		// Numbers are written in another way.
		"^01:30:5:8:6:1", "^1:030:5:8:6:1", "^1:30:5:8:6:01", "^1:30:5:8:6:00", "^1:+30:5:8:6:1", "^+1:30:5:8:6:1", "^-1:30:5:8:6:1",
		"^1:30:5:8:6:-0", "^1:30:5:8:6:x", "^1:30:5:8:6:1.0", "^1:30:5:8:6:1e0", "^0x1:30:5:8:6:1", "^1_0:30:5:8:6:1", "^1:3 0:5:8:6:1",
		"^1: 30:5:8:6:1", "^1:30 :5:8:6:1", "^1:30:5:8:6:1 ", "^1:30:5:8:6:1\n", "^1:30:5:8:6:1\x00", "^\u0661:30:5:8:6:1",
		// Numbers are beyond their limits, also modulo 2^32 or 2^64.
		"^0:30:5:8:6:1", "^10000:30:5:8:6:1", "^1:0:5:8:6:1", "^1:201:5:8:6:1", "^1:30:0:8:6:1", "^1:30:31:8:6:1", "^1:30:5:0:6:1",
		"^1:30:5:101:6:1", "^1:30:5:8:0:1", "^1:30:5:8:51:1", "^1:30:5:8:6:3", "^1:30:5:8:6:-1", "^4294967297:30:5:8:6:1",
		"^18446744073709551617:30:5:8:6:1", "^1:30:5:8:6:18446744073709551616", "^1000000001:30:5:8:6:1",
		// Rows or boats are empty, or divided by something else.
		"^1:30:5:8:6:1/", "^1:30:5:8:6:1+", "^/1:30:5:8:6:1", "^+1:30:5:8:6:1", "^1:30:5:8:6:1//2:30:5:8:6:1",
		"^1:30:5:8:6:1++2:30:5:8:6:1", "^1:30:5:8:6:1+/2:30:5:8:6:1", "^1:30:5:8:6:1/+2:30:5:8:6:1", "^1:30:5:8:6:1,2:30:5:8:6:1",
		"^1:30:5:8:6:1 2:30:5:8:6:1", "^1:30:5:8:6:1:2:30:5:8:6:1", "^1:30:5:8:6:1/^2:30:5:8:6:1", "^1:30:5:8:6:1^2:30:5:8:6:1",
		"^1:30/5:8:6:1", "^1:30+5:8:6:1", "^1/30:5:8:6:1",
		// Ids occur twice.
		"^1:30:5:8:6:1+1:30:5:8:6:1", "v1:30:5:8:6:1/1:31:5:8:6:1", "v1:30:5:8:6:1/2:31:5:8:6:1+1:1:1:1:1:1",
		// Texts of any length and any bytes.
		everyByte(), "^" + everyByte(), strings.Repeat("^", 100000), strings.Repeat("v", 126), strings.Repeat("9", 126),
		"^" + strings.Repeat("/", 100000), "^" + strings.Repeat("+", 100000), "^" + strings.Repeat(":", 100000),
		"^" + strings.Repeat("/", 125), "^" + strings.Repeat("+", 125), "^" + strings.Repeat(":", 125),
		"^" + strings.Repeat("0", 100000) + "1:30:5:8:6:1", "^" + strings.Repeat("1:30:5:8:6:1/", 100000) + "1:30:5:8:6:1",
		"^" + strings.Repeat("\xff", 20), "\xff", "\x00", "\xe2\x86\x911:30:5:8:6:1",
	}
	for _, s := range rejected {
		rejectText(t, s)
	}
}

func TestParseTrainCountsBoats(t *testing.T) {
	for count := 1; count <= 8; count++ {
		for _, separator := range []string{"+", "/"} {
			var boats []string
			for id := range count {
				boats = append(boats, strconv.Itoa(id+1)+":1:1:1:1:0")
			}
			// Seven such boats are a shorter text than six long ones can be.
			s := "v" + strings.Join(boats, separator)
			train, ok := impl.ParseTrain(s)
			if ok != (count <= impl.MaxBoats) || ok && impl.FormatTrain(train) != s {
				t.Errorf("ParseTrain(%q) = %v, %v", s, train, ok)
			}
			if !ok && !isZeroTrain(train) {
				t.Errorf("ParseTrain(%q) = %v and false", s, train)
			}
		}
	}
}

const boatPattern = `([1-9][0-9]{0,3}):([1-9][0-9]?|1[0-9][0-9]|200):([1-9]|[12][0-9]|30):([1-9][0-9]?|100):([1-9]|[1-4][0-9]|50):[012]`

var trainPattern = regexp.MustCompile(`\A[v^]` + boatPattern + `([+/]` + boatPattern + `){0,5}\z`)

// isTextOfTrain has a pattern for the numbers with their limits; the Ids are compared as texts.
func isTextOfTrain(s string) bool {
	if !trainPattern.MatchString(s) {
		return false
	}
	seen := map[string]bool{}
	for _, b := range strings.FieldsFunc(s[1:], func(c rune) bool { return c == '+' || c == '/' }) {
		id, _, _ := strings.Cut(b, ":")
		if seen[id] {
			return false
		}
		seen[id] = true
	}
	return true
}

func checkText(t *testing.T, s string) {
	t.Helper()
	train, ok := impl.ParseTrain(s)
	if ok != isTextOfTrain(s) || ok && (!impl.TrainOk(train) || impl.FormatTrain(train) != s) || !ok && !isZeroTrain(train) {
		t.Errorf("ParseTrain(%q) = %v, %v", s, train, ok)
	}
}

// changesOf returns a text with each byte replaced, removed and added, and its beginnings and ends.
func changesOf(s string) []string {
	var list []string
	for i := range len(s) {
		list = append(list, s[:i], s[i:], s[:i]+s[i+1:])
	}
	for i := range len(s) + 1 {
		for b := range 256 {
			c := string([]byte{byte(b)})
			list = append(list, s[:i]+c+s[i:])
			if i < len(s) {
				list = append(list, s[:i]+c+s[i+1:])
			}
		}
	}
	return list
}

func TestTextsWithAnotherByte(t *testing.T) {
	for _, s := range []string{"^1:30:5:8:6:1", "v9:20:3:10:5:2+1:200:30:100:50:0", "^2:9:9:9:9:1/12:1:1:1:1:1"} {
		for _, changed := range changesOf(s) {
			checkText(t, changed)
		}
	}
}

// TestShuffledTexts is for texts of the bytes that texts have, near those of trains.
func TestShuffledTexts(t *testing.T) {
	rnd := rand.New(rand.NewSource(46))
	accepted := 0
	for range 5000 {
		s := []byte(impl.FormatTrain(randomTrain(rnd, 0)))
		for range 1 + rnd.Intn(3) {
			s[rnd.Intn(len(s))] = "0123456789:+/^v"[rnd.Intn(15)]
		}
		checkText(t, string(s))
		if _, ok := impl.ParseTrain(string(s)); ok {
			accepted++
		}
	}
	if accepted < 100 {
		t.Errorf("only %d shuffled texts are accepted", accepted)
	}
}
