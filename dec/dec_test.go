package dec_test

import (
	"math"
	"math/big"
	"math/rand"
	"strconv"
	"strings"
	"testing"

	"abacist/api"
	"abacist/dec"
	"abacist/plain"
)

var (
	greatest        = strings.Repeat("9", api.MaxDigits)
	least           = "-" + strings.Repeat("9", api.MaxDigits-1)
	tooLong         = strings.Repeat("9", api.MaxDigits+1)
	tooLow          = "-" + strings.Repeat("9", api.MaxDigits)
	leastPositive   = "1/" + strings.Repeat("9", api.MaxDigits-2)
	tooLongFraction = "1/" + strings.Repeat("9", api.MaxDigits-1)

	// With MaxBits digits after the point: the smallest decimal that is greater
	// than 0, and the tie below it.
	finest = "1/1" + strings.Repeat("0", api.MaxBits)
	tie    = "1/2" + strings.Repeat("0", api.MaxBits)
)

func expectText(t *testing.T, a string, digits int, want string, wantErr api.Errno) {
	t.Helper()
	got, err := dec.Text(a, digits)
	if got != want || plain.Told(err) != wantErr {
		t.Errorf("Text(%s, %d) = %q, %v; want %q, %v", a, digits, got, plain.Told(err), want, wantErr)
	}
}

func expectAround(t *testing.T, a string, digits int, want api.Ival, wantErr api.Errno) {
	t.Helper()
	got, err := dec.Around(a, digits)
	if got != want || plain.Told(err) != wantErr {
		t.Errorf("Around(%s, %d) = %q, %v; want %q, %v", a, digits, got, plain.Told(err), want, wantErr)
	}
}

func TestText(t *testing.T) {
	zeros := strings.Repeat("0", api.MaxBits)
	cases := []struct {
		a      string
		digits int
		want   string
	}{
		{"0", 0, "0"},
		{"0", 1, "0.0"},
		{"0", 3, "0.000"},
		{"7", 0, "7"},
		{"7", 2, "7.00"},
		{"-7", 0, "-7"},
		{"-7", 2, "-7.00"},
		{"10", 1, "10.0"},
		{"100", 0, "100"},
		{"1/2", 1, "0.5"},
		{"-1/2", 1, "-0.5"},
		{"1/8", 3, "0.125"},
		{"1/8", 5, "0.12500"},
		{"-17/8", 3, "-2.125"},
		{"1/3", 0, "0"},
		{"1/3", 4, "0.3333"},
		{"-1/3", 4, "-0.3333"},
		{"2/3", 0, "1"},
		{"2/3", 4, "0.6667"},
		{"-2/3", 0, "-1"},
		{"-2/3", 4, "-0.6667"},
		{"22/7", 2, "3.14"},
		{"355/113", 6, "3.141593"},
		{"1/100", 2, "0.01"},
		{"1/100", 3, "0.010"},
		{"-1/100", 2, "-0.01"},
		{"1234567/1000", 2, "1234.57"},
		{"1234567/1000", 3, "1234.567"},
		{"1/3", api.MaxBits, "0." + strings.Repeat("3", api.MaxBits)},
		{"-2/3", api.MaxBits, "-0." + strings.Repeat("6", api.MaxBits-1) + "7"},
		{"7", api.MaxBits, "7." + zeros},
		{finest, api.MaxBits, "0." + zeros[1:] + "1"},
		{finest, api.MaxBits - 1, "0." + zeros[1:]},
		{greatest, 0, greatest},
		{greatest, api.MaxBits, greatest + "." + zeros},
		{least, api.MaxBits, least + "." + zeros},
		{leastPositive, api.MaxBits, "0." + zeros},
	}
	for _, c := range cases {
		expectText(t, c.a, c.digits, c.want, api.OK)
	}
}

func TestTextOfTies(t *testing.T) {
	zeros := strings.Repeat("0", api.MaxBits)
	cases := []struct {
		a      string
		digits int
		want   string
	}{
		{"1/2", 0, "0"},
		{"3/2", 0, "2"},
		{"5/2", 0, "2"},
		{"7/2", 0, "4"},
		{"19/2", 0, "10"},
		{"21/2", 0, "10"},
		{"-3/2", 0, "-2"},
		{"-5/2", 0, "-2"},
		{"-7/2", 0, "-4"},
		{"1/4", 1, "0.2"},
		{"3/4", 1, "0.8"},
		{"-1/4", 1, "-0.2"},
		{"-3/4", 1, "-0.8"},
		{"1/8", 2, "0.12"},
		{"3/8", 2, "0.38"},
		{"-1/8", 2, "-0.12"},
		{"-3/8", 2, "-0.38"},
		{"19/20", 1, "1.0"},
		{"-19/20", 1, "-1.0"},
		{"199/200", 2, "1.00"},
		{"99/200", 2, "0.50"},
		{"1999/20", 1, "100.0"},
		{"2001/20", 1, "100.0"},
		// A hair beside the tie, the nearest one is not the even one.
		{"49/20", 1, "2.4"},
		{"2449/1000", 1, "2.4"},
		{"2451/1000", 1, "2.5"},
		{"-2449/1000", 1, "-2.4"},
		{"-2451/1000", 1, "-2.5"},
		{"50000000000000000001/100000000000000000000", 0, "1"},
		{"49999999999999999999/100000000000000000000", 0, "0"},
		{tie, api.MaxBits, "0." + zeros},
		{"3/2" + zeros, api.MaxBits, "0." + zeros[1:] + "2"},
		{"-3/2" + zeros, api.MaxBits, "-0." + zeros[1:] + "2"},
	}
	for _, c := range cases {
		expectText(t, c.a, c.digits, c.want, api.OK)
	}
}

// TestTextRoundedToZero has negative numbers that, once rounded, no longer are.
func TestTextRoundedToZero(t *testing.T) {
	cases := []struct {
		a      string
		digits int
		want   string
	}{
		{"-1/2", 0, "0"},
		{"-1/3", 0, "0"},
		{"-1/20", 1, "0.0"},
		{"-1/1000", 2, "0.00"},
		{"-" + tie, api.MaxBits, "0." + strings.Repeat("0", api.MaxBits)},
		{"-" + leastPositive[:api.MaxDigits-1], 5, "0.00000"},
		// The next ones are not rounded to 0.
		{"-2/3", 0, "-1"},
		{"-51/1000", 1, "-0.1"},
		{"-1/10", 1, "-0.1"},
	}
	for _, c := range cases {
		expectText(t, c.a, c.digits, c.want, api.OK)
	}
}

func TestAround(t *testing.T) {
	zeros := strings.Repeat("0", api.MaxBits)
	cases := []struct {
		a         string
		digits    int
		low, high string
	}{
		{"1/3", 0, "0", "1"},
		{"-1/3", 0, "-1", "0"},
		{"1/3", 1, "3/10", "2/5"},
		{"-1/3", 1, "-2/5", "-3/10"},
		{"1/3", 2, "33/100", "17/50"},
		{"2/3", 0, "0", "1"},
		{"7/2", 0, "3", "4"},
		{"-7/2", 0, "-4", "-3"},
		{"22/7", 2, "157/50", "63/20"},
		{"99/100", 1, "9/10", "1"},
		{"-1/1000", 2, "-1/100", "0"},
		// Numbers that have no more digits are both ends.
		{"0", 0, "0", "0"},
		{"0", 5, "0", "0"},
		{"7", 0, "7", "7"},
		{"-7", 3, "-7", "-7"},
		{"1/2", 1, "1/2", "1/2"},
		{"-1/8", 3, "-1/8", "-1/8"},
		{"-1/8", 4, "-1/8", "-1/8"},
		{"-1/8", 2, "-13/100", "-3/25"},
		{greatest, api.MaxBits, greatest, greatest},
		{least, 0, least, least},
		{finest, api.MaxBits, finest, finest},
		{tie, api.MaxBits, "0", finest},
		{"-" + tie, api.MaxBits, "-" + finest, "0"},
		{finest, api.MaxBits - 1, "0", "1/1" + zeros[1:]},
		{leastPositive, api.MaxBits, "0", finest},
	}
	for _, c := range cases {
		expectAround(t, c.a, c.digits, api.Ival{Low: c.low, High: c.high}, api.OK)
	}
}

func TestErrors(t *testing.T) {
	cases := []struct {
		a      string
		digits int
		want   api.Errno
	}{
		{"", 2, api.ErrForm},
		{"x", 2, api.ErrForm},
		{"-", 2, api.ErrForm},
		{"-0", 2, api.ErrForm},
		{"01", 2, api.ErrForm},
		{"+1", 2, api.ErrForm},
		{"1 ", 2, api.ErrForm},
		{"0.5", 2, api.ErrForm},
		{"2/4", 2, api.ErrForm},
		{"3/1", 2, api.ErrForm},
		{"0/2", 2, api.ErrForm},
		{"1/0", 2, api.ErrForm},
		{"1/-2", 2, api.ErrForm},
		{tooLong, 2, api.ErrFull},
		{tooLow, 2, api.ErrFull},
		{tooLongFraction, 2, api.ErrFull},
		{strings.Repeat("x", api.MaxDigits+1), 2, api.ErrFull},
		{"1", -1, api.ErrRange},
		{"1/3", -1, api.ErrRange},
		{"1", api.MaxBits + 1, api.ErrRange},
		{"1/3", api.MaxBits + 1, api.ErrRange},
		{"1", 1000, api.ErrRange},
		{"1", 1 << 8, api.ErrRange},
		{"1", 1 << 32, api.ErrRange},
		{"1", math.MaxInt, api.ErrRange},
		{"1", math.MinInt, api.ErrRange},
		// The errors of the number come first.
		{"", -1, api.ErrForm},
		{"2/4", api.MaxBits + 1, api.ErrForm},
		{tooLong, -1, api.ErrFull},
		{tooLow, math.MaxInt, api.ErrFull},
	}
	for _, c := range cases {
		expectText(t, c.a, c.digits, "", c.want)
		expectAround(t, c.a, c.digits, api.Ival{}, c.want)
	}
}

func number(t *testing.T, a string) *big.Rat {
	t.Helper()
	x, ok := new(big.Rat).SetString(a)
	if !ok {
		t.Fatalf("%q is not a number", a)
	}
	return x
}

func numbers(t *testing.T) []*big.Rat {
	t.Helper()
	var list []*big.Rat
	for bottom := int64(1); bottom <= 40; bottom++ {
		for top := int64(-60); top <= 60; top++ {
			list = append(list, big.NewRat(top, bottom))
		}
	}
	for _, a := range []string{greatest, least, leastPositive, finest, tie} {
		list = append(list, number(t, a))
	}
	source := rand.New(rand.NewSource(11))
	for bits := uint(4); bits < 160; bits += 4 {
		size := new(big.Int).Lsh(big.NewInt(1), bits)
		top, bottom := new(big.Int).Rand(source, size), new(big.Int).Rand(source, size)
		x := new(big.Rat).SetFrac(top, bottom.Add(bottom, big.NewInt(1)))
		list = append(list, x, new(big.Rat).Neg(x))
	}
	return list
}

func tenTo(digits int) *big.Int {
	return new(big.Int).Exp(big.NewInt(10), big.NewInt(int64(digits)), nil)
}

// aroundByBig rounds x down and, by rounding down the number with the other
// sign, up.
func aroundByBig(x *big.Rat, digits int) api.Ival {
	down := func(top *big.Int) *big.Int {
		return new(big.Int).Div(new(big.Int).Mul(top, tenTo(digits)), x.Denom())
	}
	text := func(units *big.Int) string {
		return new(big.Rat).SetFrac(units, tenTo(digits)).RatString()
	}
	up := down(new(big.Int).Neg(x.Num()))
	return api.Ival{Low: text(down(x.Num())), High: text(up.Neg(up))}
}

func TestAroundAll(t *testing.T) {
	for _, x := range numbers(t) {
		for _, digits := range []int{0, 1, 2, 3, 9, 10, api.MaxBits} {
			expectAround(t, x.RatString(), digits, aroundByBig(x, digits), api.OK)
		}
	}
}

// TestTextOfAll holds each text against the definition: its form, its distance
// and, for a tie, its last digit.
func TestTextOfAll(t *testing.T) {
	for _, x := range numbers(t) {
		for _, digits := range []int{0, 1, 2, 3, 9, 10, api.MaxBits} {
			a := x.RatString()
			text, err := dec.Text(a, digits)
			if err != nil {
				t.Fatalf("Text(%s, %d): %v", a, digits, err)
			}
			if !hasForm(text, digits) {
				t.Errorf("Text(%s, %d) = %q is no decimal fraction", a, digits, text)
				continue
			}
			y := number(t, text)
			if (text[0] == '-') != (y.Sign() < 0) {
				t.Errorf("Text(%s, %d) = %q has the wrong sign", a, digits, text)
			}
			// The distance in halves of a unit of the last digit.
			halves := new(big.Rat).SetInt(tenTo(digits))
			halves.Mul(halves, big.NewRat(2, 1)).Mul(halves, y.Sub(y, x))
			far := halves.Abs(halves).Cmp(big.NewRat(1, 1))
			if far > 0 || far == 0 && (text[len(text)-1]-'0')%2 > 0 {
				t.Errorf("Text(%s, %d) = %q is not the nearest one", a, digits, text)
			}
		}
	}
}

// hasForm reports whether a text is an integer part without leading zeros and
// so many digits after it.
func hasForm(text string, digits int) bool {
	before, after, point := strings.Cut(strings.TrimPrefix(text, "-"), ".")
	if point != (digits > 0) || len(after) != digits || before == "" || before[0] == '0' && before != "0" {
		return false
	}
	return strings.Trim(before+after, "0123456789") == ""
}

// TestAgainstFloats needs no other definition than that of strconv, which rounds
// ties to even digits too; quarters and such are floats without an error.
func TestAgainstFloats(t *testing.T) {
	for top := int64(1); top <= 4000; top++ {
		for _, bottom := range []int64{1, 2, 8, 64} {
			for digits := range 6 {
				x := big.NewRat(top, bottom)
				f, _ := x.Float64()
				want := strconv.FormatFloat(f, 'f', digits, 64)
				expectText(t, x.RatString(), digits, want, api.OK)
				if strings.Trim(want, "0.") != "" {
					want = "-" + want
				}
				expectText(t, x.Neg(x).RatString(), digits, want, api.OK)
			}
		}
	}
}
