package sturm_test

import (
	"slices"
	"strings"
	"testing"

	"abacist/api"
	"abacist/plain"
	"abacist/sturm"
)

// wrong has lists that are no polynomials.
func wrong() []struct {
	p    []string
	want api.Errno
} {
	full := slices.Repeat([]string{"1"}, api.MaxCoeffs+1)
	return []struct {
		p    []string
		want api.Errno
	}{
		{[]string{""}, api.ErrForm},
		{[]string{"1", "-0", "1"}, api.ErrForm},
		{[]string{"2/4", "1"}, api.ErrForm},
		{[]string{"1", "x"}, api.ErrForm},
		{[]string{"0"}, api.ErrForm},
		{[]string{"1", "2", "0"}, api.ErrForm},
		{[]string{tooLong}, api.ErrFull},
		{[]string{"1", tooLongFraction, "1"}, api.ErrFull},
		{[]string{"x", tooLong}, api.ErrForm},
		{[]string{tooLong, "x"}, api.ErrFull},
		{[]string{tooLong, "0"}, api.ErrFull},
		{full, api.ErrFull},
		{append([]string{"x"}, full...), api.ErrFull},
		{make([]string, 1<<20), api.ErrFull},
	}
}

// wrongNumbers has texts that are no numbers.
func wrongNumbers() []struct {
	x    string
	want api.Errno
} {
	return []struct {
		x    string
		want api.Errno
	}{
		{"", api.ErrForm},
		{"x", api.ErrForm},
		{"-0", api.ErrForm},
		{"01", api.ErrForm},
		{"2/4", api.ErrForm},
		{"1/0", api.ErrForm},
		{"0.5", api.ErrForm},
		{tooLong, api.ErrFull},
		{tooLongFraction, api.ErrFull},
		{strings.Repeat("x", api.MaxDigits+1), api.ErrFull},
	}
}

func expectChainError(t *testing.T, p []string, want api.Errno) {
	t.Helper()
	got, err := sturm.Chain(p)
	if len(got) > 0 || plain.Told(err) != want {
		t.Errorf("Chain(%.200q) = %q, %v; want %v", p, got, plain.Told(err), want)
	}
}

func expectCountError(t *testing.T, p []string, a, b string, want api.Errno) {
	t.Helper()
	got, err := sturm.Count(p, a, b)
	if got != 0 || plain.Told(err) != want {
		t.Errorf("Count(%.200q, %.200q, %.200q) = %d, %v; want %v", p, a, b, got, plain.Told(err), want)
	}
}

func expectChangesError(t *testing.T, numbers []string, want api.Errno) {
	t.Helper()
	got, err := sturm.Changes(numbers)
	if got != 0 || plain.Told(err) != want {
		t.Errorf("Changes(%.200q) = %d, %v; want %v", numbers, got, plain.Told(err), want)
	}
}

func TestErrorsOfPolynomials(t *testing.T) {
	// The last two ends have errors too, which come later.
	ends := []string{"0", "1", "-1/2", "x", tooLong}
	for _, c := range wrong() {
		expectChainError(t, c.p, c.want)
		for _, a := range ends {
			for _, b := range ends {
				expectCountError(t, c.p, a, b, c.want)
			}
		}
	}
}

func TestErrorsOfEnds(t *testing.T) {
	// The zero polynomial and ends in the wrong order are errors that come later.
	for _, p := range []string{"", "1", "0 1", "-2 0 1"} {
		f := from(p)[0]
		for _, c := range wrongNumbers() {
			expectCountError(t, f, c.x, "1", c.want)
			expectCountError(t, f, "1", c.x, c.want)
			for _, d := range wrongNumbers() {
				expectCountError(t, f, c.x, d.x, c.want)
			}
		}
	}
}

func TestZeroPolynomial(t *testing.T) {
	for _, zero := range [][]string{nil, {}} {
		expectChainError(t, zero, api.ErrNone)
		for _, ends := range [][2]string{{"0", "1"}, {"0", "0"}, {"1", "0"}} {
			expectCountError(t, zero, ends[0], ends[1], api.ErrNone)
		}
	}
}

func TestEndsInTheWrongOrder(t *testing.T) {
	for _, p := range []string{"1", "0 1", "-2 0 1", "0 0 1"} {
		for _, ends := range [][2]string{
			{"1", "0"}, {"0", "-1"}, {"1/2", "1/3"}, {"-1/3", "-1/2"}, {"10", "9"}, {greatest, "0"},
			{"1/" + greatest[3:], "1/" + greatest[2:]},
		} {
			expectCountError(t, from(p)[0], ends[0], ends[1], api.ErrRange)
		}
	}
}

func TestErrorsOfChanges(t *testing.T) {
	for _, c := range wrongNumbers() {
		for _, list := range [][]string{
			{c.x}, {"1", "-1", c.x}, {c.x, "1"}, {"0", c.x, "-1"}, append(slices.Repeat([]string{"1", "-1"}, 1000), c.x),
		} {
			expectChangesError(t, list, c.want)
			// The errors of one element come before those of the next one.
			for _, d := range wrongNumbers() {
				expectChangesError(t, append(slices.Clone(list), d.x), c.want)
			}
		}
	}
}

// TestArgumentsAreKept looks at the arguments, and at the memory behind their
// length, after all results have been overwritten.
func TestArgumentsAreKept(t *testing.T) {
	for _, text := range []string{"", "1", "-1/2", "0 1", "-2 0 1", "1 2 1", "0 0 1 1", "-1 0 0 0 0 0 0 0 1"} {
		fields := from(text)[0]
		p := append(slices.Clone(fields), "behind", "it")
		want := slices.Clone(p)
		f := p[:len(fields)]
		first, _ := sturm.Chain(f)
		before := slices.Clone(first)
		for i, l := range first {
			before[i] = slices.Clone(l)
		}
		for i, l := range first {
			if !slices.Equal(l, before[i]) {
				t.Errorf("two lists of Chain(%s) share memory", text)
			}
			l = l[:cap(l)]
			for j := range l {
				l[j] = "overwritten"
			}
		}
		sturm.Changes(f)
		sturm.Count(f, "-1", "1")
		if !slices.Equal(p, want) {
			t.Errorf("a function changes %s to %q", text, p)
		}
		if again, _ := sturm.Chain(f); !slices.EqualFunc(again, before, slices.Equal) {
			t.Errorf("Chain(%s) = %q after its first result was changed", text, again)
		}
	}
}
