package cf_test

import (
	"math/big"
	"math/rand"
	"slices"
	"strconv"
	"strings"
	"testing"

	"abacist/api"
	"abacist/cf"
	"abacist/plain"
)

var (
	greatest = strings.Repeat("9", api.MaxDigits)
	least    = "-" + strings.Repeat("9", api.MaxDigits-1)
	tooLong  = strings.Repeat("9", api.MaxDigits+1)
	tooLow   = "-" + strings.Repeat("9", api.MaxDigits)

	leastPositive   = "1/" + strings.Repeat("9", api.MaxDigits-2)
	tooLongFraction = "1/" + strings.Repeat("9", api.MaxDigits-1)
)

func expect(t *testing.T, call, got string, err error, want string, wantErr api.Errno) {
	t.Helper()
	if got != want || plain.Told(err) != wantErr {
		t.Errorf("%s = %q, %v; want %q, %v", call, got, plain.Told(err), want, wantErr)
	}
}

// list returns the words of a text.
func list(text string) []string {
	return strings.Fields(text)
}

// copies returns a list of n elements.
func copies(n int, element string) []string {
	return slices.Repeat([]string{element}, n)
}

func number(t *testing.T, a string) *big.Rat {
	t.Helper()
	x, ok := new(big.Rat).SetString(a)
	if !ok {
		t.Fatalf("%q is not a number", a)
	}
	return x
}

// randomNumber returns a number whose parts have at most that many bits.
func randomNumber(source *rand.Rand, bits uint) *big.Rat {
	size := new(big.Int).Lsh(big.NewInt(1), bits)
	top, bottom := new(big.Int).Rand(source, size), new(big.Int).Rand(source, size)
	if source.Intn(2) > 0 {
		top.Neg(top)
	}
	return new(big.Rat).SetFrac(top, bottom.Add(bottom, big.NewInt(1)))
}

// numbers returns numbers of at most api.MaxDigits bytes: all small ones, those
// that are the shortest and the longest ones, and others of all sizes.
func numbers(t *testing.T) []*big.Rat {
	var all []*big.Rat
	for bottom := int64(1); bottom <= 13; bottom++ {
		for top := int64(-30); top <= 30; top++ {
			all = append(all, big.NewRat(top, bottom))
		}
	}
	for _, a := range []string{greatest, least, leastPositive, "333/106", "-333/106",
		"1000/999", "-1000/999", "999/1000", "1/1000", "1/1001", "-1/1001", "1001/2000",
		"4294967296/4294967295", "-4294967295/4294967296"} {
		all = append(all, number(t, a))
	}
	source := rand.New(rand.NewSource(7))
	for bits := uint(4); bits < 160; bits += 3 {
		all = append(all, randomNumber(source, bits))
	}
	return all
}

func TestOf(t *testing.T) {
	cases := []struct {
		a, want string
		wantErr api.Errno
	}{
		{"0", "0", api.OK},
		{"1", "1", api.OK},
		{"-1", "-1", api.OK},
		{"7", "7", api.OK},
		{"-7", "-7", api.OK},
		{greatest, greatest, api.OK},
		{least, least, api.OK},
		{"1/2", "0 2", api.OK},
		{"-1/2", "-1 2", api.OK},
		{"2/3", "0 1 2", api.OK},
		{"-2/3", "-1 3", api.OK},
		{"3/2", "1 2", api.OK},
		{"-3/2", "-2 2", api.OK},
		{"8/5", "1 1 1 2", api.OK},
		{"-8/5", "-2 2 2", api.OK},
		{"333/106", "3 7 15", api.OK},
		{"-333/106", "-4 1 6 15", api.OK},
		{"355/113", "3 7 16", api.OK},
		{leastPositive, "0 " + leastPositive[2:], api.OK},
		{"4294967296/4294967295", "1 4294967295", api.OK},
		{"4294967295/4294967296", "0 1 4294967295", api.OK},
		{"18446744073709551617/2", "9223372036854775808 2", api.OK},
		{"", "", api.ErrForm},
		{"x", "", api.ErrForm},
		{"-0", "", api.ErrForm},
		{"2/4", "", api.ErrForm},
		{"1/0", "", api.ErrForm},
		{"3/1", "", api.ErrForm},
		{"1/-2", "", api.ErrForm},
		{"01", "", api.ErrForm},
		{tooLong, "", api.ErrFull},
		{tooLow, "", api.ErrFull},
		{tooLongFraction, "", api.ErrFull},
		{strings.Repeat("x", api.MaxDigits+1), "", api.ErrFull},
	}
	for _, c := range cases {
		got, err := cf.Of(c.a)
		expect(t, "Of("+c.a+")", strings.Join(got, " "), err, c.want, c.wantErr)
		if c.wantErr != api.OK && len(got) > 0 {
			t.Errorf("Of(%s): a list of %d elements beside the error", c.a, len(got))
		}
	}
}

// TestOfLongest has the number whose continued fraction has more elements than
// that of any other: a quotient of Fibonacci numbers.
func TestOfLongest(t *testing.T) {
	x, y := big.NewInt(1), big.NewInt(2)
	want := 2
	for {
		sum := new(big.Int).Add(x, y)
		if len(y.String())+1+len(sum.String()) > api.MaxDigits {
			break
		}
		x, y = y, sum
		want++
	}
	a := y.String() + "/" + x.String()
	got, err := cf.Of(a)
	ones := strings.Repeat("1 ", want-2) + "2"
	expect(t, "Of("+a+")", strings.Join(got, " "), err, ones, api.OK)
	if want <= api.MaxBits {
		t.Fatalf("only %d elements", want)
	}
	_, err = cf.Back(got)
	expect(t, "Back of Of("+a+")", "", err, "", api.ErrFull)
}

// expandByBig follows the definition of the continued fraction.
func expandByBig(x *big.Rat) []string {
	floor := new(big.Int).Div(x.Num(), x.Denom())
	first := []string{floor.String()}
	rest := new(big.Rat).Sub(x, new(big.Rat).SetInt(floor))
	if rest.Sign() == 0 {
		return first
	}
	return append(first, expandByBig(rest.Inv(rest))...)
}

// collapseByBig follows the definition of Back.
func collapseByBig(t *testing.T, l []string) *big.Rat {
	first := number(t, l[0])
	if len(l) == 1 {
		return first
	}
	rest := collapseByBig(t, l[1:])
	return first.Add(first, rest.Inv(rest))
}

func TestOfAndBackOfAll(t *testing.T) {
	for _, x := range numbers(t) {
		a := x.RatString()
		got, err := cf.Of(a)
		expect(t, "Of("+a+")", strings.Join(got, " "), err, strings.Join(expandByBig(x), " "), api.OK)
		if len(got) <= api.MaxBits {
			back, err := cf.Back(got)
			expect(t, "Back of Of("+a+")", back, err, a, api.OK)
		}
	}
}

func TestBack(t *testing.T) {
	cases := []struct{ l, want string }{
		{"0", "0"},
		{"5", "5"},
		{"-5", "-5"},
		{greatest, greatest},
		{least, least},
		{"3 7 15", "333/106"},
		{"3 7 16", "355/113"},
		{"-2 2 2", "-8/5"},
		{"0 1", "1"},
		{"0 2", "1/2"},
		{"-1 2", "-1/2"},
		{"-1 1", "0"},
		{"0 1 1", "1/2"},
		// An element that is 1 may be the last one, unlike in a result of Of.
		{"3 1", "4"},
		{"3 7 14 1", "333/106"},
		{"1 1 1 1", "5/3"},
		{"-3 1", "-2"},
		{"0 " + greatest, "1/" + greatest},
		{least + " " + greatest, ""},
	}
	for _, c := range cases {
		l := list(c.l)
		want := c.want
		if want == "" {
			want = collapseByBig(t, l).RatString()
		}
		got, err := cf.Back(l)
		expect(t, "Back("+c.l+")", got, err, want, api.OK)
	}
}

func TestBackOfLongLists(t *testing.T) {
	source := rand.New(rand.NewSource(8))
	for n := 1; n <= api.MaxBits; n++ {
		for _, element := range []string{"1", "2", "4294967295", "4294967296", greatest} {
			l := copies(n, element)
			expectBack(t, l)
			l[0] = "0"
			expectBack(t, l)
			l[0] = least
			expectBack(t, l)
			for i := range l {
				l[i] = strconv.Itoa(1 + source.Intn(9))
			}
			expectBack(t, l)
		}
	}
}

func expectBack(t *testing.T, l []string) {
	t.Helper()
	before := slices.Clone(l)
	got, err := cf.Back(l)
	expect(t, "Back of a long list", got, err, collapseByBig(t, l).RatString(), api.OK)
	if !slices.Equal(l, before) {
		t.Errorf("Back changes its argument from %v to %v", before, l)
	}
}

func TestBackErrors(t *testing.T) {
	after := func(n int, element string, more ...string) []string {
		return append(copies(n, element), more...)
	}
	cases := []struct {
		name string
		l    []string
		want api.Errno
	}{
		{"nil", nil, api.ErrNone},
		{"empty", []string{}, api.ErrNone},
		{"0 after the first", list("3 0"), api.ErrRange},
		{"-1 after the first", list("3 -1"), api.ErrRange},
		{"the last is 0", list("3 7 0"), api.ErrRange},
		{"0 in between", list("3 0 7"), api.ErrRange},
		{"a long negative one", []string{"3", least}, api.ErrRange},
		{"the first is empty", []string{""}, api.ErrForm},
		{"a fraction", list("1/2"), api.ErrForm},
		{"a fraction after the first", list("1 3/2"), api.ErrForm},
		{"-0", list("1 -0"), api.ErrForm},
		{"01", list("1 01"), api.ErrForm},
		{"too long", []string{tooLong}, api.ErrFull},
		{"too low", []string{"1", tooLow}, api.ErrFull},
		{"form before length", list("x " + tooLong), api.ErrForm},
		{"length before form", list(tooLong + " x"), api.ErrFull},
		// The errors of all elements come before those of the list.
		{"range before form", list("3 0 x"), api.ErrForm},
		{"range before length", list("3 0 " + tooLong), api.ErrFull},
		{"as many as there may be", after(api.MaxBits-1, "1", "0"), api.ErrRange},
		{"one more", copies(api.MaxBits+1, "1"), api.ErrFull},
		{"one more, in range at first", copies(api.MaxBits+1, "0"), api.ErrFull},
		{"one more, 0 beyond", after(api.MaxBits, "1", "0"), api.ErrFull},
		{"one more, no form beyond", after(api.MaxBits, "1", "x"), api.ErrForm},
		{"many more, no form at last", after(1000, "0", "-0"), api.ErrForm},
		{"many more", copies(1<<16, "1"), api.ErrFull},
	}
	for _, c := range cases {
		got, err := cf.Back(c.l)
		expect(t, "Back, "+c.name, got, err, "", c.want)
	}
}

func TestNear(t *testing.T) {
	cases := []struct {
		a, most, want string
		wantErr       api.Errno
	}{
		{"333/106", "1", "3", api.OK},
		{"333/106", "10", "22/7", api.OK},
		{"333/106", "105", "311/99", api.OK},
		{"333/106", "106", "333/106", api.OK},
		{"333/106", "1000", "333/106", api.OK},
		{"-333/106", "10", "-22/7", api.OK},
		{"0", "1", "0", api.OK},
		{"0", "1000", "0", api.OK},
		{"5", "1000", "5", api.OK},
		{"-5", "1", "-5", api.OK},
		{greatest, "1000", greatest, api.OK},
		{least, "1000", least, api.OK},
		{leastPositive, "1000", "0", api.OK},
		{"1/1000", "1000", "1/1000", api.OK},
		{"1/1001", "1000", "1/1000", api.OK},
		{"-1/1001", "1000", "-1/1000", api.OK},
		{"1/2001", "1000", "0", api.OK},
		{"999999999999/1000000000000", "1000", "1", api.OK},
		{"-999999999999/1000000000000", "1000", "-1", api.OK},
		// Two are equally near; both are integers.
		{"1/2", "1", "0", api.OK},
		{"-1/2", "1", "-1", api.OK},
		{"3/2", "1", "1", api.OK},
		{"-3/2", "1", "-2", api.OK},
		// Two are equally near, with different denominators: 0 and 1/2, and so on.
		{"1/4", "2", "0", api.OK},
		{"1/4", "3", "1/3", api.OK},
		{"3/4", "2", "1", api.OK},
		{"-1/4", "2", "0", api.OK},
		{"-3/4", "2", "-1", api.OK},
		{"5/12", "3", "1/2", api.OK},
		{"7/12", "3", "1/2", api.OK},
		{"1/2000", "1000", "0", api.OK},
		{"-1/2000", "1000", "0", api.OK},
		{"1999/2000", "1000", "1", api.OK},
		{"1/2", "0", "", api.ErrRange},
		{"1/2", "1001", "", api.ErrRange},
		{"1/2", "4294967297", "", api.ErrRange},
		{"1/2", "18446744073709551617", "", api.ErrRange},
		{"1/2", greatest, "", api.ErrRange},
		{"1/2", tooLong, "", api.ErrFull},
		{"1/2", "", "", api.ErrForm},
		{"1/2", "-1", "", api.ErrForm},
		{"1/2", "01", "", api.ErrForm},
		{"1/2", "3/2", "", api.ErrForm},
		{"2/4", "1", "", api.ErrForm},
		{"", "1", "", api.ErrForm},
		{tooLongFraction, "1", "", api.ErrFull},
		{tooLow, "x", "", api.ErrFull},
		{"2/4", tooLong, "", api.ErrForm},
		{"1/0", "0", "", api.ErrForm},
		{tooLong, "0", "", api.ErrFull},
	}
	for _, c := range cases {
		got, err := cf.Near(c.a, c.most)
		expect(t, "Near("+c.a+", "+c.most+")", got, err, c.want, c.wantErr)
	}
}

// nearByBig compares, for each denominator in ascending order, the two numbers
// next to x, the smaller one first, so that a later one has to be nearer.
func nearByBig(x *big.Rat, most int64) string {
	var best, least *big.Rat
	for bottom := int64(1); bottom <= most; bottom++ {
		top := new(big.Int).Mul(x.Num(), big.NewInt(bottom))
		top.Div(top, x.Denom())
		for range 2 {
			y := new(big.Rat).SetFrac(top, big.NewInt(bottom))
			gap := new(big.Rat).Sub(x, y)
			gap.Abs(gap)
			if best == nil || gap.Cmp(least) < 0 {
				best, least = y, gap
			}
			top = new(big.Int).Add(top, big.NewInt(1))
		}
	}
	return best.RatString()
}

func expectNear(t *testing.T, x *big.Rat, most int64) {
	t.Helper()
	a, limit := x.RatString(), strconv.FormatInt(most, 10)
	got, err := cf.Near(a, limit)
	expect(t, "Near("+a+", "+limit+")", got, err, nearByBig(x, most), api.OK)
}

func TestNearOfAll(t *testing.T) {
	for i, x := range numbers(t) {
		limits := []int64{1, 2, 3, 4, 5, 6, 7, 8, 12, 13, 30}
		if i%50 == 0 {
			limits = append(limits, 100, 105, 106, 999, 1000)
		}
		for _, most := range limits {
			expectNear(t, x, most)
		}
	}
}

// TestNearHalfway has the numbers halfway between two neighbours.
func TestNearHalfway(t *testing.T) {
	for b := int64(1); b <= 12; b++ {
		for d := int64(1); d <= 12; d++ {
			for a := -b; a <= b; a++ {
				for c := -d; c <= d; c++ {
					if a*d-b*c != 1 {
						continue
					}
					x := new(big.Rat).Add(big.NewRat(a, b), big.NewRat(c, d))
					x.Mul(x, big.NewRat(1, 2))
					for _, most := range []int64{max(b, d), b + d - 1} {
						expectNear(t, x, most)
					}
				}
			}
		}
	}
}
