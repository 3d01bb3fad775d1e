package ival_test

import (
	"math/big"
	"math/rand"
	"strings"
	"testing"

	"abacist/api"
	"abacist/ival"
	"abacist/plain"
)

var (
	greatest        = strings.Repeat("9", api.MaxDigits)
	least           = "-" + strings.Repeat("9", api.MaxDigits-1)
	tooLong         = strings.Repeat("9", api.MaxDigits+1)
	tooLow          = "-" + strings.Repeat("9", api.MaxDigits)
	leastPositive   = "1/" + strings.Repeat("9", api.MaxDigits-2)
	tooLongFraction = "1/" + strings.Repeat("9", api.MaxDigits-1)
)

// from reads an interval that is written as its ends with a space in between.
func from(text string) api.Ival {
	low, high, _ := strings.Cut(text, " ")
	return api.Ival{Low: low, High: high}
}

// operation is a function of two intervals.
type operation struct {
	name string
	call func(a, b api.Ival) (api.Ival, error)
}

func operations() []operation {
	return []operation{
		{"Add", ival.Add},
		{"Mul", ival.Mul},
		{"Div", ival.Div},
		{"Hull", ival.Hull},
	}
}

func (o operation) expect(t *testing.T, a, b, want api.Ival, wantErr api.Errno) {
	t.Helper()
	got, err := o.call(a, b)
	if got != want || plain.Told(err) != wantErr {
		t.Errorf("%s(%q, %q) = %q, %v; want %q, %v", o.name, a, b, got, plain.Told(err), want, wantErr)
	}
}

func expectHas(t *testing.T, a api.Ival, x string, want bool, wantErr api.Errno) {
	t.Helper()
	got, err := ival.Has(a, x)
	if got != want || plain.Told(err) != wantErr {
		t.Errorf("Has(%q, %q) = %v, %v; want %v, %v", a, x, got, plain.Told(err), want, wantErr)
	}
}

// wrong has intervals with an error.
func wrong() []struct {
	low, high string
	want      api.Errno
} {
	return []struct {
		low, high string
		want      api.Errno
	}{
		{"", "", api.ErrForm},
		{"", "1", api.ErrForm},
		{"1", "", api.ErrForm},
		{"x", "1", api.ErrForm},
		{"0", "x", api.ErrForm},
		{"-0", "1", api.ErrForm},
		{"0", "-0", api.ErrForm},
		{"01", "2", api.ErrForm},
		{"0", "02", api.ErrForm},
		{"2/4", "1", api.ErrForm},
		{"0", "2/4", api.ErrForm},
		{"0", "1/1", api.ErrForm},
		{"1/0", "2", api.ErrForm},
		{"0.5", "1", api.ErrForm},
		{"0", "1 ", api.ErrForm},
		{tooLong, tooLong, api.ErrFull},
		{tooLow, "1", api.ErrFull},
		{"0", tooLong, api.ErrFull},
		{"0", tooLongFraction, api.ErrFull},
		{"1", "0", api.ErrRange},
		{"0", "-1", api.ErrRange},
		{"1/2", "1/3", api.ErrRange},
		{"-1/3", "-1/2", api.ErrRange},
		{"10", "9", api.ErrRange},
		{"1/2", "-1/2", api.ErrRange},
		{leastPositive, "0", api.ErrRange},
		{greatest, least, api.ErrRange},
		// What is wrong with Low comes before what is wrong with High, and both
		// before their order.
		{"x", tooLong, api.ErrForm},
		{tooLong, "x", api.ErrFull},
		{tooLong, "1", api.ErrFull},
		{"1", tooLow, api.ErrFull},
		{"1", "-0", api.ErrForm},
		{"3/3", "0", api.ErrForm},
	}
}

func TestCheck(t *testing.T) {
	for _, a := range []string{
		"0 0", "0 1", "-1 0", "-1 1", "1 1", "-1 -1", "9 10", "-10 -9",
		"1/3 1/2", "-1/2 -1/3", "1/2 1/2", "-1/2 1/3", "2/3 1", "1 4/3",
		"0 " + leastPositive, least + " " + greatest, greatest + " " + greatest,
	} {
		if err := ival.Check(from(a)); err != nil {
			t.Errorf("Check(%s) = %v", a, err)
		}
	}
	for _, c := range wrong() {
		if got := plain.Told(ival.Check(api.Ival{Low: c.low, High: c.high})); got != c.want {
			t.Errorf("Check(%s, %s) = %v, want %v", c.low, c.high, got, c.want)
		}
	}
}

func TestHas(t *testing.T) {
	cases := []struct {
		a, x string
		want bool
	}{
		{"1 2", "3/2", true},
		{"1 2", "1", true},
		{"1 2", "2", true},
		{"1 2", "99/100", false},
		{"1 2", "201/100", false},
		{"1 2", "-3/2", false},
		{"-2 -1", "-3/2", true},
		{"-2 -1", "-2", true},
		{"-2 -1", "-1", true},
		{"-2 -1", "3/2", false},
		{"-2 -1", "0", false},
		{"-1/2 1/3", "0", true},
		{"-1/2 1/3", "-1/2", true},
		{"-1/2 1/3", "1/3", true},
		{"-1/2 1/3", "1/2", false},
		{"0 0", "0", true},
		{"0 0", leastPositive, false},
		{"1/3 1/3", "1/3", true},
		{"1/3 1/3", "1/2", false},
		{"9 10", "10", true},
		{"9 10", "19/2", true},
		{"0 " + leastPositive, leastPositive, true},
		{"0 1", leastPositive, true},
		{least + " " + greatest, "0", true},
		{"0 1", greatest, false},
		{"0 1", least, false},
	}
	for _, c := range cases {
		expectHas(t, from(c.a), c.x, c.want, api.OK)
	}
}

func TestErrorsOfHas(t *testing.T) {
	for _, c := range wrong() {
		for _, x := range []string{"0", "1", "", "2/4", tooLong} {
			expectHas(t, api.Ival{Low: c.low, High: c.high}, x, false, c.want)
		}
	}
	for _, c := range []struct {
		x    string
		want api.Errno
	}{
		{"", api.ErrForm},
		{"x", api.ErrForm},
		{"-0", api.ErrForm},
		{"2/4", api.ErrForm},
		{"1/0", api.ErrForm},
		{"0/2", api.ErrForm},
		{tooLong, api.ErrFull},
		{tooLow, api.ErrFull},
		{tooLongFraction, api.ErrFull},
	} {
		expectHas(t, from("-1 1"), c.x, false, c.want)
	}
}

// TestErrorsOfArguments has second intervals with errors of all kinds, which
// the first one conceals, and such that contain 0.
func TestErrorsOfArguments(t *testing.T) {
	others := []api.Ival{
		from("1 2"), from("-1 1"), from("0 0"), from("2 1"), from("x 1"),
		{}, {Low: tooLong, High: "1"}, {Low: "0", High: tooLong},
	}
	for _, o := range operations() {
		for _, c := range wrong() {
			a := api.Ival{Low: c.low, High: c.high}
			for _, b := range others {
				o.expect(t, a, b, api.Ival{}, c.want)
			}
			for _, b := range []string{"1 2", "-1 1", "0 0"} {
				o.expect(t, from(b), a, api.Ival{}, c.want)
			}
		}
	}
}

func TestExamples(t *testing.T) {
	cases := []struct{ a, b, sum, product, quotient, hull string }{
		{"1 2", "3 4", "4 6", "3 8", "1/4 2/3", "1 4"},
		{"3 4", "1 2", "4 6", "3 8", "3/2 4", "1 4"},
		{"-2 -1", "3 4", "1 3", "-8 -3", "-2/3 -1/4", "-2 4"},
		{"1 2", "-4 -3", "-3 -1", "-8 -3", "-2/3 -1/4", "-4 2"},
		{"-2 -1", "-4 -3", "-6 -4", "3 8", "1/4 2/3", "-4 -1"},
		{"-1 2", "3 4", "2 6", "-4 8", "-1/3 2/3", "-1 4"},
		{"-1 2", "-4 -3", "-5 -1", "-8 4", "-2/3 1/3", "-4 2"},
		{"1 2", "-4 -2", "-3 0", "-8 -2", "-1 -1/4", "-4 2"},
		{"0 2", "1 4", "1 6", "0 8", "0 2", "0 4"},
		{"-2 0", "1 4", "-1 4", "-8 0", "-2 0", "-2 4"},
		{"0 0", "1 4", "1 4", "0 0", "0 0", "0 4"},
		{"0 0", "-4 -1", "-4 -1", "0 0", "0 0", "-4 0"},
		// Points.
		{"2 2", "3 3", "5 5", "6 6", "2/3 2/3", "2 3"},
		{"3 3", "3 3", "6 6", "9 9", "1 1", "3 3"},
		{"-1/2 -1/2", "1/2 1/2", "0 0", "-1/4 -1/4", "-1 -1", "-1/2 1/2"},
		// One of them contains the other, or they meet.
		{"1 4", "2 3", "3 7", "2 12", "1/3 2", "1 4"},
		{"2 3", "1 4", "3 7", "2 12", "1/2 3", "1 4"},
		{"1 2", "2 3", "3 5", "2 6", "1/3 1", "1 3"},
		{"1 2", "1 2", "2 4", "1 4", "1/2 2", "1 2"},
		// The order of the ends is that of numbers, not of texts.
		{"9 10", "99 100", "108 110", "891 1000", "9/100 10/99", "9 100"},
		{"-10 -9", "1/3 1/2", "-29/3 -17/2", "-5 -3", "-30 -18", "-10 1/2"},
		{"1/3 1/2", "1/10 1/9", "13/30 11/18", "1/30 1/18", "3 5", "1/10 1/2"},
	}
	for _, c := range cases {
		for i, want := range []string{c.sum, c.product, c.quotient, c.hull} {
			operations()[i].expect(t, from(c.a), from(c.b), from(want), api.OK)
		}
	}
}

func TestZeroDivisor(t *testing.T) {
	cases := []struct{ a, b, sum, product, hull string }{
		{"1 2", "0 2", "1 4", "0 4", "0 2"},
		{"1 2", "-2 0", "-1 2", "-4 0", "-2 2"},
		{"1 2", "-1 1", "0 3", "-2 2", "-1 2"},
		{"1 2", "0 0", "1 2", "0 0", "0 2"},
		{"0 0", "0 0", "0 0", "0 0", "0 0"},
		{"0 0", "-1 1", "-1 1", "0 0", "-1 1"},
		{"-1 2", "-3 1", "-4 3", "-6 3", "-3 2"},
		{"-2 3", "-3 2", "-5 5", "-9 6", "-3 3"},
		{"-1 4", "-2 3", "-3 7", "-8 12", "-2 4"},
		{"-2 1", "-4 1", "-6 2", "-4 8", "-4 1"},
		{"1 2", "-1/1000 1/1000", "999/1000 2001/1000", "-1/500 1/500", "-1/1000 2"},
		{"1 2", "0 1/999", "1 1999/999", "0 2/999", "0 2"},
		{"1 2", "-1/999 0", "998/999 2", "-2/999 0", "-1/999 2"},
	}
	for _, c := range cases {
		for i, want := range []string{c.sum, c.product, "", c.hull} {
			wantErr := api.OK
			if want == "" {
				wantErr = api.ErrZero
			}
			operations()[i].expect(t, from(c.a), from(c.b), from(want), wantErr)
		}
	}
}

// TestLongResults has ends that are longer than those of arguments may be.
func TestLongResults(t *testing.T) {
	a := api.Ival{Low: least, High: greatest}
	one := from("1 1")
	operations()[0].expect(t, a, one, api.Ival{
		Low: "-" + strings.Repeat("9", api.MaxDigits-2) + "8", High: "1" + strings.Repeat("0", api.MaxDigits),
	}, api.OK)
	tiny := api.Ival{Low: leastPositive, High: leastPositive}
	operations()[1].expect(t, tiny, tiny, api.Ival{
		Low:  "1/" + leastPositive[3:] + "8" + strings.Repeat("0", api.MaxDigits-3) + "1",
		High: "1/" + leastPositive[3:] + "8" + strings.Repeat("0", api.MaxDigits-3) + "1",
	}, api.OK)
	operations()[2].expect(t, one, tiny, api.Ival{Low: leastPositive[2:], High: leastPositive[2:]}, api.OK)
	operations()[2].expect(t, from("7 7"), api.Ival{Low: "1", High: greatest}, api.Ival{Low: "7/" + greatest, High: "7"}, api.OK)
	operations()[3].expect(t, tiny, a, a, api.OK)
}

// sample is an interval with its ends and numbers from between them.
type sample struct {
	ends    api.Ival
	numbers []*big.Rat
}

func (s sample) has(x *big.Rat) bool {
	return s.numbers[0].Cmp(x) <= 0 && x.Cmp(s.numbers[1]) <= 0
}

// sampleOf takes the ends, the numbers that divide the interval into quarters,
// and 0 and the numbers near it that are there.
func sampleOf(x, y *big.Rat) sample {
	if y.Cmp(x) < 0 {
		x, y = y, x
	}
	s := sample{api.Ival{Low: x.RatString(), High: y.RatString()}, []*big.Rat{x, y}}
	quarter := new(big.Rat).Sub(y, x)
	quarter.Mul(quarter, big.NewRat(1, 4))
	for n := int64(1); n < 4; n++ {
		part := new(big.Rat).Mul(quarter, big.NewRat(n, 1))
		s.numbers = append(s.numbers, part.Add(part, x))
	}
	for n := int64(-1); n <= 1; n++ {
		if near := big.NewRat(n, 1000); s.has(near) {
			s.numbers = append(s.numbers, near)
		}
	}
	return s
}

func samples() []sample {
	var ends []*big.Rat
	for top := int64(-6); top <= 6; top++ {
		ends = append(ends, big.NewRat(top, 3))
	}
	var list []sample
	for i, x := range ends {
		for _, y := range ends[i:] {
			list = append(list, sampleOf(x, y))
		}
	}
	source := rand.New(rand.NewSource(12))
	number := func(bits uint) *big.Rat {
		size := new(big.Int).Lsh(big.NewInt(1), bits)
		top, bottom := new(big.Int).Rand(source, size), new(big.Int).Rand(source, size)
		if source.Intn(2) > 0 {
			top.Neg(top)
		}
		return new(big.Rat).SetFrac(top, bottom.Add(bottom, big.NewInt(1)))
	}
	for bits := uint(8); bits < 160; bits += 8 {
		list = append(list, sampleOf(number(bits), number(bits)))
	}
	return list
}

// results returns what the operation with this index gives for numbers of both,
// or nothing if it would divide by 0. Hull gives the numbers themselves.
func results(operation int, a, b sample) []*big.Rat {
	if operation == 3 {
		return append(append([]*big.Rat{}, a.numbers...), b.numbers...)
	}
	if operation == 2 && b.has(new(big.Rat)) {
		return nil
	}
	var list []*big.Rat
	for _, x := range a.numbers {
		for _, y := range b.numbers {
			out := new(big.Rat)
			switch operation {
			case 0:
				out.Add(x, y)
			case 1:
				out.Mul(x, y)
			default:
				out.Quo(x, y)
			}
			list = append(list, out)
		}
	}
	return list
}

// TestAllPairs holds each result against the results of numbers, the smallest
// and the greatest of which are among those of the ends.
func TestAllPairs(t *testing.T) {
	list := samples()
	for _, a := range list {
		for _, b := range list {
			for i, o := range operations() {
				all := results(i, a, b)
				if len(all) == 0 {
					o.expect(t, a.ends, b.ends, api.Ival{}, api.ErrZero)
					continue
				}
				low, high := all[0], all[0]
				for _, x := range all {
					if x.Cmp(low) < 0 {
						low = x
					}
					if x.Cmp(high) > 0 {
						high = x
					}
				}
				o.expect(t, a.ends, b.ends, api.Ival{Low: low.RatString(), High: high.RatString()}, api.OK)
			}
		}
	}
}

func TestHasAll(t *testing.T) {
	list := samples()
	for _, a := range list {
		for _, b := range list {
			for _, x := range b.numbers {
				if text := x.RatString(); len(text) <= api.MaxDigits {
					expectHas(t, a.ends, text, a.has(x), api.OK)
				}
			}
		}
	}
}
