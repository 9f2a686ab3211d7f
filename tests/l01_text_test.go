package tests

import (
	"encoding/hex"
	"math"
	"slices"
	"strconv"
	"strings"
	"testing"
	"unsafe"

	"loop.example/g03317/impl"
)

func everyByte() string {
	all := make([]byte, 256)
	for i := range all {
		all[i] = byte(i)
	}
	return string(all)
}

func TestHexOfKnownStrings(t *testing.T) {
	known := []struct{ plain, encoded string }{
		{"", ""},
		{"az", "617a"},
		{"\x00", "00"},
		{"\x0f\xf0", "0ff0"},
		{"\x09\x0a\x90\xa0", "090a90a0"},
		{"\xff", "ff"},
		{"é", "c3a9"},
	}
	for _, k := range known {
		if got, ok := impl.EncodeHex(k.plain); got != k.encoded || !ok {
			t.Errorf("EncodeHex(%q) = %q, %v", k.plain, got, ok)
		}
		if got, ok := impl.DecodeHex(k.encoded); got != k.plain || !ok {
			t.Errorf("DecodeHex(%q) = %q, %v", k.encoded, got, ok)
		}
	}
}

func TestHexOfEveryByte(t *testing.T) {
	encoded, ok := impl.EncodeHex(everyByte())
	if encoded != hex.EncodeToString([]byte(everyByte())) || !ok {
		t.Errorf("EncodeHex of every byte = %q, %v", encoded, ok)
	}
	decoded, ok := impl.DecodeHex(encoded)
	if decoded != everyByte() || !ok {
		t.Errorf("DecodeHex of every byte = %q, %v", decoded, ok)
	}
}

func TestDecodeHexAcceptsLowercaseDigitsAlone(t *testing.T) {
	for b := range 256 {
		c := string([]byte{byte(b)})
		want := strings.Contains("0123456789abcdef", c)
		for _, s := range []string{c + "0", "0" + c, "00" + c + "0", "0" + c + "00"} {
			got, ok := impl.DecodeHex(s)
			if ok != want {
				t.Errorf("DecodeHex(%q) = %q, %v", s, got, ok)
			}
			if !ok && got != "" {
				t.Errorf("DecodeHex(%q) = %q and false", s, got)
			}
		}
	}
}

func TestDecodeHexRejectsOddLengths(t *testing.T) {
	for _, s := range []string{"0", "f", "617", "617a6", strings.Repeat("0", 2*impl.MaxInputLen-1)} {
		if got, ok := impl.DecodeHex(s); got != "" || ok {
			t.Errorf("DecodeHex of %d digits = %d bytes, %v", len(s), len(got), ok)
		}
	}
}

func TestHexAtTheLimit(t *testing.T) {
	longest := strings.Repeat("q", impl.MaxInputLen)
	encoded, ok := impl.EncodeHex(longest)
	if encoded != strings.Repeat("71", impl.MaxInputLen) || !ok {
		t.Errorf("EncodeHex of the longest string = %d digits, %v", len(encoded), ok)
	}
	if decoded, ok := impl.DecodeHex(encoded); decoded != longest || !ok {
		t.Errorf("DecodeHex of the longest text = %d bytes, %v", len(decoded), ok)
	}
	if encoded, ok := impl.EncodeHex(longest + "q"); encoded != "" || ok {
		t.Errorf("EncodeHex beyond the limit = %d digits, %v", len(encoded), ok)
	}
	for _, more := range []string{"7", "71"} {
		if decoded, ok := impl.DecodeHex(strings.Repeat("71", impl.MaxInputLen) + more); decoded != "" || ok {
			t.Errorf("DecodeHex beyond the limit = %d bytes, %v", len(decoded), ok)
		}
	}
}

func TestFormatInt(t *testing.T) {
	known := []struct {
		n    int
		want string
	}{
		{0, "0"}, {7, "7"}, {-7, "-7"}, {10, "10"}, {-30, "-30"}, {1000000001, "1000000001"},
		{math.MaxInt, "9223372036854775807"}, {math.MinInt, "-9223372036854775808"},
	}
	for _, k := range known {
		if got := impl.FormatInt(k.n); got != k.want {
			t.Errorf("FormatInt(%d) = %q", k.n, got)
		}
	}
}

func TestParseUintReadsWhatFormatIntWrites(t *testing.T) {
	numbers := []int{0, 1, 9, 10, 19, 99, 100, 120, 1009, 99999999, 123456789, 999999999, impl.MaxUint}
	for n := range 2000 {
		numbers = append(numbers, n, impl.MaxUint-n)
	}
	for _, n := range numbers {
		if got, ok := impl.ParseUint(impl.FormatInt(n)); got != n || !ok {
			t.Errorf("ParseUint of the text of %d = %d, %v", n, got, ok)
		}
	}
}

func TestParseUintRejects(t *testing.T) {
	rejected := []string{
		"", " ", "01", "00", "001", "0000000001", "+1", "-1", "-0", "+", "-", "1 ", " 1", "1\x00",
		"1a", "a", "0x1", "1_0", "1.0", "1e3", "1/", "1:", "/", ":", "٣", "1\xff", "\xff",
		strconv.Itoa(impl.MaxUint + 1), "1999999999", "9999999999", "10000000000",
		strconv.Itoa(math.MaxInt), "9223372036854775808", strconv.Itoa(math.MinInt),
		// These two are 1 and 120 modulo 2^64.
		"18446744073709551617", "18446744073709551736",
		strings.Repeat("9", 100000), strings.Repeat("0", 100000), strings.Repeat("0", 100000) + "1",
	}
	for _, s := range rejected {
		if got, ok := impl.ParseUint(s); got != 0 || ok {
			t.Errorf("ParseUint(%.30q) = %d, %v", s, got, ok)
		}
	}
}

func TestSplitFields(t *testing.T) {
	known := []struct {
		line string
		want []string
	}{
		{"", nil},
		{" ", nil},
		{"    ", nil},
		{"a", []string{"a"}},
		{"  send 12  x ", []string{"send", "12", "x"}},
		{"a b", []string{"a", "b"}},
		{"a  b", []string{"a", "b"}},
		{" !~ ~! ", []string{"!~", "~!"}},
		{"a,b \"c d\"", []string{"a,b", "\"c", "d\""}},
	}
	for _, k := range known {
		if got, ok := impl.SplitFields(k.line); !slices.Equal(got, k.want) || !ok {
			t.Errorf("SplitFields(%q) = %q, %v", k.line, got, ok)
		}
	}
}

func TestSplitFieldsAcceptsPrintableBytesAlone(t *testing.T) {
	for b := range 256 {
		c := string([]byte{byte(b)})
		for _, line := range []string{c, "x " + c, c + " x", "x" + c + "x", "x y " + c + " z"} {
			got, ok := impl.SplitFields(line)
			if want := b >= 32 && b <= 126; ok != want {
				t.Errorf("SplitFields(%q) = %q, %v", line, got, ok)
			}
			if !ok && got != nil {
				t.Errorf("SplitFields(%q) = %q and false", line, got)
			}
		}
	}
}

func TestSplitFieldsAtTheLimits(t *testing.T) {
	known := []struct {
		line   string
		fields int
		ok     bool
	}{
		{strings.Repeat("x", impl.MaxLineLen), 1, true},
		{strings.Repeat("x", impl.MaxLineLen+1), 0, false},
		{strings.Repeat(" ", impl.MaxLineLen), 0, true},
		{strings.Repeat(" ", impl.MaxLineLen+1), 0, false},
		{strings.Repeat("x", impl.MaxLineLen-1) + "\n", 0, false},
		{strings.Repeat("x", 100000), 0, false},
		{strings.Repeat("x ", impl.MaxFieldsPerLine), impl.MaxFieldsPerLine, true},
		{strings.Repeat(" x", impl.MaxFieldsPerLine), impl.MaxFieldsPerLine, true},
		{strings.Repeat("x ", impl.MaxFieldsPerLine+1), 0, false},
		{strings.Repeat("x ", impl.MaxLineLen/2), 0, false},
	}
	for _, k := range known {
		got, ok := impl.SplitFields(k.line)
		if len(got) != k.fields || ok != k.ok || !ok && got != nil {
			t.Errorf("SplitFields of %d bytes = %d fields, %v", len(k.line), len(got), ok)
		}
	}
}

func TestSplitFieldsSharesNoMemory(t *testing.T) {
	line := strings.Repeat("word ", 3)
	first := uintptr(unsafe.Pointer(unsafe.StringData(line)))
	fields, _ := impl.SplitFields(line)
	for _, f := range fields {
		at := uintptr(unsafe.Pointer(unsafe.StringData(f)))
		if at >= first && at < first+uintptr(len(line)) {
			t.Errorf("field %q lies in the line", f)
		}
	}
}
