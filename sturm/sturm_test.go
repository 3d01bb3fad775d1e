package sturm_test

import (
	"slices"
	"strings"
	"testing"

	"abacist/api"
	"abacist/plain"
	"abacist/sturm"
)

var (
	greatest        = strings.Repeat("9", api.MaxDigits)
	tooLong         = strings.Repeat("9", api.MaxDigits+1)
	tooLongFraction = "1/" + strings.Repeat("9", api.MaxDigits-1)
)

// from reads polynomials that are written as their coefficients with spaces in
// between, with a bar between two polynomials.
func from(text string) [][]string {
	var list [][]string
	for part := range strings.SplitSeq(text, "|") {
		list = append(list, strings.Fields(part))
	}
	return list
}

func expectChain(t *testing.T, p, want string) {
	t.Helper()
	got, err := sturm.Chain(from(p)[0])
	if !slices.EqualFunc(got, from(want), slices.Equal) || err != nil {
		t.Errorf("Chain(%s) = %.300q, %v; want %.300s", p, got, plain.Told(err), want)
	}
}

func expectChanges(t *testing.T, numbers string, want int) {
	t.Helper()
	got, err := sturm.Changes(from(numbers)[0])
	if got != want || err != nil {
		t.Errorf("Changes(%.300s) = %d, %v; want %d", numbers, got, plain.Told(err), want)
	}
}

func expectCount(t *testing.T, p, a, b string, want int) {
	t.Helper()
	got, err := sturm.Count(from(p)[0], a, b)
	if got != want || err != nil {
		t.Errorf("Count(%s, %s, %s) = %d, %v; want %d", p, a, b, got, plain.Told(err), want)
	}
}

func TestChain(t *testing.T) {
	for _, c := range []struct{ p, want string }{
		{"1", "1"},
		{"-2/3", "-2/3"},
		{greatest, greatest},
		{"0 1", "0 1|1"},
		{"1 -2", "1 -2|-2"},
		{"3/4 1/2", "3/4 1/2|1/2"},
		{"-2 0 1", "-2 0 1|0 2|2"},
		{"2 0 1", "2 0 1|0 2|-2"},
		{"2 0 -1", "2 0 -1|0 -2|-2"},
		{"-4 0 2", "-4 0 2|0 4|4"},
		// The division leaves nothing at the first polynomial with all multiple
		// roots.
		{"0 0 1", "0 0 1|0 2"},
		{"1 2 1", "1 2 1|2 2"},
		{"0 0 0 0 0 0 0 0 1/7", "0 0 0 0 0 0 0 0 1/7|0 0 0 0 0 0 0 8/7"},
		{"0 0 1 1", "0 0 1 1|0 2 3|0 2/9"},
		{"4 0 -4 0 1", "4 0 -4 0 1|0 -8 0 4|-4 0 2"},
		// Cubic polynomials with one, with two and with three roots.
		{"1 1 0 1", "1 1 0 1|1 0 3|-1 -2/3|-31/4"},
		{"2 -3 0 1", "2 -3 0 1|-3 0 3|-2 2"},
		{"1 -3 0 1", "1 -3 0 1|-3 0 3|-1 2|9/4"},
		{"-1 0 0 1", "-1 0 0 1|0 0 3|1"},
		// Remainders are shorter by more than one.
		{"1 0 0 0 0 0 0 0 1", "1 0 0 0 0 0 0 0 1|0 0 0 0 0 0 0 8|-1"},
		{"1 0 0 0 1 1", "1 0 0 0 1 1|0 0 0 4 5|-1 0 0 4/25|-25 -125/4|3381/3125"},
		{"2 1 0 0 1", "2 1 0 0 1|1 0 0 4|-2 -3/4|2021/27"},
		{"1/2 1/3 -1/4", "1/2 1/3 -1/4|1/3 -1/2|-11/18"},
	} {
		expectChain(t, c.p, c.want)
	}
}

func TestChanges(t *testing.T) {
	for _, c := range []struct {
		numbers string
		want    int
	}{
		{"", 0},
		{"0", 0},
		{"5", 0},
		{"-1/2", 0},
		{"0 0 0", 0},
		{"1 1", 0},
		{"-1 -2", 0},
		{"1 -1", 1},
		{"-1 1", 1},
		{"1 0", 0},
		{"0 -1", 0},
		{"1 0 1", 0},
		{"1 0 -1", 1},
		{"-1 0 0 0 1", 1},
		{"0 0 1 0 -1 0", 1},
		{"1 0 -1 2", 2},
		{"1 2 3 -4 -5 6", 2},
		{"1 -1 1 -1 1", 4},
		{"-1 1 0 -1 0 0 1 1 0", 3},
		{"1/3 -1/" + greatest[3:] + " " + greatest + " -" + greatest[1:], 3},
	} {
		expectChanges(t, c.numbers, c.want)
	}
	// A list may have more numbers than a polynomial may have coefficients.
	n := 100000
	expectChanges(t, strings.Repeat("1 0 -1/2 ", n), 2*n-1)
}

// TestCount has the ends at roots, and at both sides of them.
func TestCount(t *testing.T) {
	for _, c := range []struct {
		p, a, b string
		want    int
	}{
		{"-2 0 1", "-2", "2", 2},
		{"-2 0 1", "0", "2", 1},
		{"-2 0 1", "-1", "1", 0},
		{"-2 0 1", "7/5", "3/2", 1},
		{"-2 0 1", "2", "3", 0},
		{"2 0 -1", "-2", "2", 2},
		{"2 0 1", "-100", "100", 0},
		// Roots at the ends: that at b counts.
		{"-1 0 1", "-1", "1", 1},
		{"-1 0 1", "-2", "1", 2},
		{"-1 0 1", "-2", "-1", 1},
		{"-1 0 1", "1", "2", 0},
		{"-1 0 1", "-1", "0", 0},
		{"1/2 -1", "1/2", "1", 0},
		{"1/2 -1", "0", "1/2", 1},
		// Multiple roots count once, at the ends too.
		{"0 0 1", "-1", "1", 1},
		{"0 0 1", "0", "1", 0},
		{"0 0 1", "-1", "0", 1},
		{"0 0 0 0 0 0 0 0 -3", "-1", "0", 1},
		{"0 0 0 0 0 0 0 0 -3", "0", "1", 0},
		{"1 0 -2 0 1", "-1", "1", 1},
		{"1 0 -2 0 1", "-2", "1", 2},
		{"1 0 -2 0 1", "-1", "0", 0},
		{"0 0 1 -2 1", "0", "1", 1},
		{"0 0 1 -2 1", "-1", "1", 2},
		{"0 0 0 -1 1", "0", "1", 1},
		{"4 0 -4 0 1", "-2", "2", 2},
		{"1 0 2 0 1", "-9", "9", 0},
		// Nothing is greater than a number and at most that number.
		{"-1 0 1", "1", "1", 0},
		{"0 0 1", "0", "0", 0},
		{"-2 0 1", "1/3", "1/3", 0},
		// A constant has no roots.
		{"5", "-1", "1", 0},
		{"-1/2", "0", "0", 0},
		// Long numbers.
		{"-1 " + greatest, "0", "1", 1},
		{"-1 " + greatest[2:], "0", "1/" + greatest[2:], 1},
		{"-1 " + greatest[2:], "1/" + greatest[2:], "1", 0},
		{"-" + greatest[1:] + " 1", greatest[1:], greatest, 0},
		{"-" + greatest[1:] + " 1", "-" + greatest[1:], greatest[1:], 1},
		{"0 1", "-1/" + greatest[3:], "1/" + greatest[2:], 1},
		{"-2 0 0 0 0 0 0 0 " + greatest, "-1/2", "1/2", 2},
	} {
		expectCount(t, c.p, c.a, c.b, c.want)
	}
}

// TestCloseRoots has x^8 - 2 * (c * x - 1)^2, with a great c: two roots next to
// 1/c that are nearly the same.
func TestCloseRoots(t *testing.T) {
	c, square := "1"+strings.Repeat("0", 40), "1"+strings.Repeat("0", 80)
	p := "-2 4" + c[1:] + " -2" + square[1:] + " 0 0 0 0 0 1"
	expectCount(t, p, "0", "1/"+c, 1)
	expectCount(t, p, "1/"+c, "1", 1)
	expectCount(t, p, "0", "1", 2)
	expectCount(t, p, "-1", "1", 2)
	expectCount(t, p, "-"+square, square, 4)
	// Without the power, both are the same.
	expectCount(t, "-2 4"+c[1:]+" -2"+square[1:], "0", "1/"+c, 1)
	expectCount(t, "-2 4"+c[1:]+" -2"+square[1:], "1/"+c, "1", 0)
}
