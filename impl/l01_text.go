package impl

import (
	"cmp"
	"slices"
	"strconv"
	"strings"
)

const (
	MaxInputLen      = 20000
	MaxUint          = 1000000000
	MaxLineLen       = 600
	MaxFieldsPerLine = 24
	MaxAmount        = 1000000000
	MaxPoints        = 20
	MaxShares        = 12
)

const (
	hexDigits = "0123456789abcdef"

	firstPrintable = ' '
	lastPrintable  = '~'

	maxRoot = 1000000000

	randomRange  = 65536
	randomFactor = 25173
	randomStep   = 13849
	maxBelow     = 4096

	maxWeight = 1000000
)

type Point struct {
	X int
	Y int
}

// EncodeHex returns the lowercase hexadecimal encoding of s, two digits per byte with the high
// half first, and true. It returns "" and false if s is longer than MaxInputLen bytes. Example:
// EncodeHex("az") returns "617a" and true.
func EncodeHex(s string) (string, bool) {
	if len(s) > MaxInputLen {
		return "", false
	}
	digits := make([]byte, 0, 2*len(s))
	for i := range len(s) {
		digits = append(digits, hexDigits[s[i]>>4], hexDigits[s[i]&15])
	}
	return string(digits), true
}

// DecodeHex returns the string t for which EncodeHex(t) is s, and true. It returns "" and false
// if there is no such string (an odd length, a character other than 0-9 and a-f, or a result
// longer than MaxInputLen).
func DecodeHex(s string) (string, bool) {
	if len(s)%2 != 0 || len(s) > 2*MaxInputLen {
		return "", false
	}
	decoded := make([]byte, 0, len(s)/2)
	for i := 0; i < len(s); i += 2 {
		high, low := hexValue(s[i]), hexValue(s[i+1])
		if high < 0 || low < 0 {
			return "", false
		}
		decoded = append(decoded, byte(high<<4|low))
	}
	return string(decoded), true
}

func hexValue(digit byte) int {
	return strings.IndexByte(hexDigits, digit)
}

// FormatInt returns n in decimal without leading zeros, with a leading `-` for a negative number.
// It is defined for every int; FormatInt(0) is "0".
func FormatInt(n int) string {
	return strconv.Itoa(n)
}

// ParseUint returns the number n in the range 0 to MaxUint for which FormatInt(n) is s, and true.
// It returns 0 and false if there is none. Example: ParseUint("01") returns 0 and false.
func ParseUint(s string) (int, bool) {
	n := 0
	for _, c := range s {
		if c < '0' || c > '9' {
			return 0, false
		}
		n = 10*n + int(c-'0')
		if n > MaxUint {
			return 0, false
		}
	}
	// Neither "" nor a number with leading zeros is the text of any number.
	if FormatInt(n) != s {
		return 0, false
	}
	return n, true
}

// readUints has 0 for a field that is not the text of a number, so it accepts too much.
func readUints(fields []string) []int {
	numbers := make([]int, 0, len(fields))
	for _, field := range fields {
		n, _ := ParseUint(field)
		numbers = append(numbers, n)
	}
	return numbers
}

func joinInts(separator string, numbers ...int) string {
	texts := make([]string, 0, len(numbers))
	for _, n := range numbers {
		texts = append(texts, FormatInt(n))
	}
	return strings.Join(texts, separator)
}

// SplitFields returns the fields of a line in order, and true. Fields are maximal runs of bytes
// other than the space (byte 32); leading and trailing spaces are ignored. SplitFields returns
// nil and false if the line is longer than MaxLineLen bytes, contains a byte outside the range 32
// to 126, or has more than MaxFieldsPerLine fields. An empty line and a line of spaces have no
// fields.
func SplitFields(line string) ([]string, bool) {
	if len(line) > MaxLineLen || printableBytes(line) < len(line) {
		return nil, false
	}
	// Of the white space that strings.Fields knows, only the space is left
	// here; the line is cloned because no result shares memory with it.
	fields := strings.Fields(strings.Clone(line))
	if len(fields) > MaxFieldsPerLine {
		return nil, false
	}
	return fields, true
}

// printableBytes counts the bytes of a line before its first invalid one.
func printableBytes(line string) int {
	n := 0
scan:
	for ; n < len(line); n++ {
		switch c := line[n]; {
		case c < firstPrintable, c > lastPrintable:
			break scan
		}
	}
	return n
}

// Clamp returns n clamped to the range low to high. If high is less than low, it returns low.
func Clamp(n int, low int, high int) int {
	return max(low, min(n, high))
}

// FloorDiv returns a divided by b, rounded down, also if a is negative; 0 if b is not positive.
func FloorDiv(a int, b int) int {
	if b <= 0 {
		return 0
	}
	quotient := a / b
	if a%b < 0 {
		quotient--
	}
	return quotient
}

// RootOf returns the greatest r for which r*r is at most n; -1 if n is negative or greater than
// 10^18.
func RootOf(n int) int {
	if n < 0 || n > maxRoot*maxRoot {
		return -1
	}
	low, high := 0, maxRoot
	for low < high {
		middle := (low + high + 1) / 2
		if middle*middle <= n {
			low = middle
		} else {
			high = middle - 1
		}
	}
	return low
}

// NextRandom returns (state*25173 + 13849) mod 65536 for a state in the range 0 to 65535, and 0
// otherwise.
func NextRandom(state int) int {
	if !stateOk(state) {
		return 0
	}
	return (state*randomFactor + randomStep) % randomRange
}

func stateOk(state int) bool {
	return state >= 0 && state < randomRange
}

// RandomBelow returns NextRandom(state), and this number divided by 16 (rounded down) modulo n; 0
// and 0 if state is not in the range 0 to 65535 or n is not in the range 1 to 4096.
func RandomBelow(state int, n int) (int, int) {
	if !stateOk(state) || n < 1 || n > maxBelow {
		return 0, 0
	}
	next := NextRandom(state)
	return next, next / 16 % n
}

// TableOk reports whether there are 2 to MaxPoints points with strictly ascending X and ascending
// Y (equal ones may follow each other), both in the range 0 to MaxAmount.
func TableOk(list []Point) bool {
	if len(list) < 2 || len(list) > MaxPoints {
		return false
	}
	for i, p := range list {
		if !amountOk(p.X) || !amountOk(p.Y) {
			return false
		}
		if i > 0 && (p.X <= list[i-1].X || p.Y < list[i-1].Y) {
			return false
		}
	}
	return true
}

func amountOk(n int) bool {
	return n >= 0 && n <= MaxAmount
}

func every[T any](list []T, ok func(item T) bool) bool {
	return !slices.ContainsFunc(list, func(item T) bool { return !ok(item) })
}

// ValueAt returns the Y of the first point if x is at most its X, the Y of the last point if x is
// at least its X, and otherwise, between the last point p whose X is at most x and the next point
// q, p.Y plus (x - p.X)*(q.Y - p.Y)/(q.X - p.X), rounded down; 0 if TableOk(list) is false.
func ValueAt(list []Point, x int) int {
	if !TableOk(list) {
		return 0
	}
	around := pointsAround(list, x)
	p, q := around[0], around[1]
	if around == [2]Point{p, p} {
		return p.Y
	}
	return p.Y + (x-p.X)*(q.Y-p.Y)/(q.X-p.X)
}

// pointsAround returns the two points between which x lies. Beyond an end of
// the table both are the point at that end, because nothing rises there.
func pointsAround(list []Point, x int) [2]Point {
	first, last := list[0], list[len(list)-1]
	if x <= first.X {
		return [2]Point{first, first}
	}
	if x >= last.X {
		return [2]Point{last, last}
	}
	next := 1
	for list[next].X <= x {
		next++
	}
	return [2]Point{list[next-1], list[next]}
}

// PlaceOf returns the least x, from the X of the first point to that of the last one, for which
// ValueAt is at least y, and true; 0 and false if there is none or TableOk(list) is false.
func PlaceOf(list []Point, y int) (int, bool) {
	if !TableOk(list) || y > list[len(list)-1].Y {
		return 0, false
	}
	if y <= list[0].Y {
		return list[0].X, true
	}
	next := 1
	for list[next].Y < y {
		next++
	}
	p, q := list[next-1], list[next]
	rise := q.Y - p.Y
	// Rounded up: any place before this one has a value below y.
	return p.X + ((y-p.Y)*(q.X-p.X)+rise-1)/rise, true
}

// ShareOut divides a total by weights. With the sum s of the weights, share k is
// total*weights[k]/s, rounded down; and of what is left of the total, the shares get 1 each in
// the order of their remainders (total*weights[k] modulo s), the greatest one first, and of equal
// ones the one with the least index first. It returns nil if total is not in the range 0 to
// MaxAmount, there are not 1 to MaxShares weights, one of them is not in the range 0 to 1000000,
// or all are 0.
func ShareOut(total int, weights []int) []int {
	sum := sumOfWeights(weights)
	if !amountOk(total) || sum == 0 {
		return nil
	}
	shares := make([]int, len(weights))
	remainders := make([]int, len(weights))
	left := total
	for k, weight := range weights {
		shares[k] = total * weight / sum
		remainders[k] = total * weight % sum
		left -= shares[k]
	}
	for _, k := range greatestFirst(remainders)[:left] {
		shares[k]++
	}
	return shares
}

// sumOfWeights returns 0 where nothing can be divided by these weights.
func sumOfWeights(weights []int) int {
	if len(weights) > MaxShares {
		return 0
	}
	sum := 0
	for _, weight := range weights {
		if weight < 0 || weight > maxWeight {
			return 0
		}
		sum += weight
	}
	return sum
}

// greatestFirst returns the indices of a list; the sort is stable so that of
// equal elements the one with the least index comes first.
func greatestFirst(list []int) []int {
	order := make([]int, len(list))
	for k := range order {
		order[k] = k
	}
	slices.SortStableFunc(order, func(a, b int) int {
		return cmp.Compare(list[b], list[a])
	})
	return order
}
