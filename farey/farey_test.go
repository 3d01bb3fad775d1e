package farey_test

import (
	"math/big"
	"math/rand"
	"strconv"
	"strings"
	"testing"

	"abacist/api"
	"abacist/farey"
	"abacist/plain"
)

var (
	greatest        = strings.Repeat("9", api.MaxDigits)
	least           = "-" + strings.Repeat("9", api.MaxDigits-1)
	tooLong         = strings.Repeat("9", api.MaxDigits+1)
	tooLow          = "-" + strings.Repeat("9", api.MaxDigits)
	leastPositive   = "1/" + strings.Repeat("9", api.MaxDigits-2)
	tooLongFraction = "1/" + strings.Repeat("9", api.MaxDigits-1)

	// The path that ends at the greatest denominator that a path can reach.
	zigzag = strings.Repeat("LR", api.MaxBits/2)
)

func expect(t *testing.T, call, got string, err error, want string, wantErr api.Errno) {
	t.Helper()
	if got != want || plain.Told(err) != wantErr {
		t.Errorf("%s = %q, %v; want %q, %v", call, got, plain.Told(err), want, wantErr)
	}
}

func expectMediant(t *testing.T, a, b, want string, wantErr api.Errno) {
	t.Helper()
	got, err := farey.Mediant(a, b)
	expect(t, "Mediant("+a+", "+b+")", got, err, want, wantErr)
}

func expectAt(t *testing.T, way, want string, wantErr api.Errno) {
	t.Helper()
	got, err := farey.At(way)
	expect(t, "At("+strconv.Quote(way)+")", got, err, want, wantErr)
}

func expectWay(t *testing.T, a, want string, wantErr api.Errno) {
	t.Helper()
	got, err := farey.Way(a)
	expect(t, "Way("+a+")", got, err, want, wantErr)
}

func number(t *testing.T, a string) *big.Rat {
	t.Helper()
	x, ok := new(big.Rat).SetString(a)
	if !ok {
		t.Fatalf("%q is not a number", a)
	}
	return x
}

func TestMediant(t *testing.T) {
	cases := []struct {
		a, b, want string
	}{
		{"1/2", "2/3", "3/5"},
		{"2/3", "1/2", "3/5"},
		{"0", "0", "0"},
		{"0", "1", "1/2"},
		{"3", "4", "7/2"},
		{"3", "5", "4"},
		{"7", "7", "7"},
		{"3", "1/2", "4/3"},
		{"1/3", "1/3", "1/3"},
		{"1/2", "1/4", "1/3"},
		{"1/3", "5/9", "1/2"},
		{"1/2", "5", "2"},
		{"0", "1/2", "1/3"},
		{"-1/2", "1/3", "0"},
		{"1", "-1", "0"},
		{"-1/2", "0", "-1/3"},
		{"-1/2", "-1/4", "-1/3"},
		{"-7", "2", "-5/2"},
		{"-3/2", "1/4", "-1/3"},
		{greatest, greatest, greatest},
		{greatest, "1", "5" + strings.Repeat("0", api.MaxDigits-1)},
		{greatest, "2", "1" + strings.Repeat("0", api.MaxDigits-1) + "1/2"},
		{least, "-1", "-5" + strings.Repeat("0", api.MaxDigits-2)},
		{leastPositive, "0", "1/1" + strings.Repeat("0", api.MaxDigits-2)},
		{leastPositive, leastPositive, leastPositive},
	}
	for _, c := range cases {
		expectMediant(t, c.a, c.b, c.want, api.OK)
	}
}

func TestMediantErrors(t *testing.T) {
	cases := []struct {
		a, b string
		want api.Errno
	}{
		{"", "1", api.ErrForm},
		{"1", "", api.ErrForm},
		{"2/4", "1", api.ErrForm},
		{"1", "2/4", api.ErrForm},
		{"1/0", "1", api.ErrForm},
		{"0", "1/0", api.ErrForm},
		{"3/1", "1", api.ErrForm},
		{"1", "-0", api.ErrForm},
		{"1/-2", "1", api.ErrForm},
		{"1", "01", api.ErrForm},
		{"1/2 ", "1", api.ErrForm},
		{"1", "x", api.ErrForm},
		{tooLong, "1", api.ErrFull},
		{"1", tooLow, api.ErrFull},
		{"1", tooLongFraction, api.ErrFull},
		{strings.Repeat("x", api.MaxDigits+1), "1", api.ErrFull},
		{"x", tooLong, api.ErrForm},
		{tooLong, "x", api.ErrFull},
	}
	for _, c := range cases {
		expectMediant(t, c.a, c.b, "", c.want)
	}
}

func TestMediantOfAll(t *testing.T) {
	var all []*big.Rat
	for bottom := int64(1); bottom <= 7; bottom++ {
		for top := int64(-15); top <= 15; top++ {
			all = append(all, big.NewRat(top, bottom))
		}
	}
	source := rand.New(rand.NewSource(9))
	for bits := uint(8); bits < 160; bits += 8 {
		size := new(big.Int).Lsh(big.NewInt(1), bits)
		top, bottom := new(big.Int).Rand(source, size), new(big.Int).Rand(source, size)
		x := new(big.Rat).SetFrac(top, bottom.Add(bottom, big.NewInt(1)))
		all = append(all, x, new(big.Rat).Neg(x))
	}
	for _, x := range all {
		for _, y := range all {
			top := new(big.Int).Add(x.Num(), y.Num())
			bottom := new(big.Int).Add(x.Denom(), y.Denom())
			want := new(big.Rat).SetFrac(top, bottom).RatString()
			expectMediant(t, x.RatString(), y.RatString(), want, api.OK)
		}
	}
}

// TestWaysAndNumbers has paths and the numbers at their ends.
func TestWaysAndNumbers(t *testing.T) {
	cases := []struct{ way, a string }{
		{"", "1"},
		{"L", "1/2"},
		{"R", "2"},
		{"LL", "1/3"},
		{"LR", "2/3"},
		{"RL", "3/2"},
		{"RR", "3"},
		{"LLL", "1/4"},
		{"LLR", "2/5"},
		{"LRL", "3/5"},
		{"LRR", "3/4"},
		{"RLL", "4/3"},
		{"RLR", "5/3"},
		{"RRL", "5/2"},
		{"RRR", "4"},
		{"RRRLLLLLLL", "25/8"},
		{"RRRLLLLLLLRRRRRRRRRRRRRR", "333/106"},
		{"RRRLLLLLLLRRRRRRRRRRRRRRR", "355/113"},
		{strings.Repeat("R", api.MaxBits), "31"},
		{strings.Repeat("R", api.MaxBits-1) + "L", "59/2"},
		{strings.Repeat("L", api.MaxBits), "1/31"},
		{"R" + strings.Repeat("L", api.MaxBits-1), "31/30"},
		{"L" + strings.Repeat("R", api.MaxBits-1), "30/31"},
		{zigzag, "1346269/2178309"},
	}
	for _, c := range cases {
		expectAt(t, c.way, c.a, api.OK)
		expectWay(t, c.a, c.way, api.OK)
	}
}

func TestAtErrors(t *testing.T) {
	full := strings.Repeat("L", api.MaxBits)
	cases := []struct {
		way  string
		want api.Errno
	}{
		{"l", api.ErrForm},
		{"r", api.ErrForm},
		{"M", api.ErrForm},
		{" ", api.ErrForm},
		{"LR ", api.ErrForm},
		{" LR", api.ErrForm},
		{"L R", api.ErrForm},
		{"LR\n", api.ErrForm},
		{"\x00", api.ErrForm},
		{"LR\x00", api.ErrForm},
		{"K", api.ErrForm},
		{"S", api.ErrForm},
		{"\xcc", api.ErrForm},
		{"L\xd2", api.ErrForm},
		// These two runes end in the bits of L and R.
		{"\u014c", api.ErrForm},
		{"\u0152", api.ErrForm},
		{"1/2", api.ErrForm},
		{full + "L", api.ErrFull},
		{full + "R", api.ErrFull},
		{zigzag + "L", api.ErrFull},
		{full[1:] + "x", api.ErrForm},
		// Another byte comes before the length, wherever it is.
		{full + "x", api.ErrForm},
		{"x" + full, api.ErrForm},
		{full + full + "x", api.ErrForm},
		{strings.Repeat("LR", 1<<19), api.ErrFull},
		{strings.Repeat("LR", 1<<19) + "x", api.ErrForm},
	}
	for _, c := range cases {
		got, err := farey.At(c.way)
		if got != "" || plain.Told(err) != c.want {
			t.Errorf("At(%.70q) = %q, %v; want %v", c.way, got, plain.Told(err), c.want)
		}
	}
}

func TestEachOtherByte(t *testing.T) {
	for b := range 256 {
		way := string([]byte{byte(b)})
		if way != "L" && way != "R" {
			expectAt(t, way, "", api.ErrForm)
			expectAt(t, "R"+way+"L", "", api.ErrForm)
		}
	}
}

func TestWayErrors(t *testing.T) {
	cases := []struct {
		a    string
		want api.Errno
	}{
		{"", api.ErrForm},
		{"x", api.ErrForm},
		{"-0", api.ErrForm},
		{"00", api.ErrForm},
		{"01", api.ErrForm},
		{"2/4", api.ErrForm},
		{"3/1", api.ErrForm},
		{"0/2", api.ErrForm},
		{"1/0", api.ErrForm},
		{"-1/0", api.ErrForm},
		{"1/-2", api.ErrForm},
		{"LR", api.ErrForm},
		{tooLong, api.ErrFull},
		{tooLow, api.ErrFull},
		{tooLongFraction, api.ErrFull},
		{"0", api.ErrRange},
		{"-1", api.ErrRange},
		{"-1/2", api.ErrRange},
		// Without the sign, the path would be too long.
		{"-32", api.ErrRange},
		{"-1/32", api.ErrRange},
		{least, api.ErrRange},
		{"32", api.ErrFull},
		{"1/32", api.ErrFull},
		{"32/31", api.ErrFull},
		{"31/32", api.ErrFull},
		{"33", api.ErrFull},
		{"61/2", api.ErrFull},
		// What comes next on the zigzag beyond its end.
		{"2178309/3524578", api.ErrFull},
		{"3524578/5702887", api.ErrFull},
		{greatest, api.ErrFull},
		{leastPositive, api.ErrFull},
		{"4294967297", api.ErrFull},
		{"18446744073709551617", api.ErrFull},
		{"18446744073709551617/18446744073709551616", api.ErrFull},
	}
	for _, c := range cases {
		expectWay(t, c.a, "", c.want)
	}
}

// atByBig follows the definition.
func atByBig(way string) string {
	low, high := [2]int64{0, 1}, [2]int64{1, 0}
	for i := 0; ; i++ {
		middle := [2]int64{low[0] + high[0], low[1] + high[1]}
		switch {
		case i == len(way):
			return big.NewRat(middle[0], middle[1]).RatString()
		case way[i] == 'L':
			high = middle
		default:
			low = middle
		}
	}
}

// wayByBig is made of the continued fraction of x: its elements tell how often
// to go right, left, right and so on, and the last one is 1 more.
func wayByBig(x *big.Rat) string {
	top, bottom := new(big.Int).Set(x.Num()), new(big.Int).Set(x.Denom())
	var way strings.Builder
	for side := 0; ; side++ {
		quotient, rest := new(big.Int).QuoRem(top, bottom, new(big.Int))
		times := int(quotient.Int64())
		if rest.Sign() == 0 {
			times--
		}
		way.WriteString(strings.Repeat("RL"[side%2:][:1], times))
		if rest.Sign() == 0 {
			return way.String()
		}
		top, bottom = bottom, rest
	}
}

// allWays returns the paths of this length, the one of the least number first.
func allWays(length int) []string {
	if length == 0 {
		return []string{""}
	}
	var ways []string
	for _, way := range allWays(length - 1) {
		ways = append(ways, way+"L", way+"R")
	}
	return ways
}

func TestAllShortWays(t *testing.T) {
	for length := range 12 {
		last := new(big.Rat)
		for _, way := range allWays(length) {
			want := atByBig(way)
			expectAt(t, way, want, api.OK)
			expectWay(t, want, way, api.OK)
			x := number(t, want)
			if x.Cmp(last) <= 0 {
				t.Errorf("At(%s) is not more than what is left of it", way)
			}
			last = x
		}
	}
}

func TestLongWays(t *testing.T) {
	source := rand.New(rand.NewSource(10))
	for length := 12; length <= api.MaxBits+1; length++ {
		for range 200 {
			way := make([]byte, length)
			for i := range way {
				way[i] = "LR"[source.Intn(2)]
			}
			want := atByBig(string(way))
			if length > api.MaxBits {
				expectAt(t, string(way), "", api.ErrFull)
				expectWay(t, want, "", api.ErrFull)
				continue
			}
			expectAt(t, string(way), want, api.OK)
			expectWay(t, want, string(way), api.OK)
		}
	}
}

// TestWayOfAll has each number with a small numerator and denominator, on both
// sides of the greatest length.
func TestWayOfAll(t *testing.T) {
	for top := int64(1); top <= 70; top++ {
		for bottom := int64(1); bottom <= 70; bottom++ {
			x := big.NewRat(top, bottom)
			way := wayByBig(x)
			if len(way) > api.MaxBits {
				expectWay(t, x.RatString(), "", api.ErrFull)
				continue
			}
			expectWay(t, x.RatString(), way, api.OK)
		}
	}
}
