package nat_test

import (
	"math/big"
	"math/rand"
	"slices"
	"strconv"
	"strings"
	"testing"

	"abacist/api"
	"abacist/nat"
	"abacist/plain"
)

func parse(t *testing.T, a string) nat.Natural {
	t.Helper()
	x, err := nat.Parse(a)
	if err != nil {
		t.Fatalf("Parse(%q): %v", a, err)
	}
	return x
}

func TestParseOfAnySize(t *testing.T) {
	for _, digits := range []int{1, 8, 9, 10, 100, 101, 500, 3000} {
		a := strings.Repeat("9", digits)
		if got := parse(t, a).String(); got != a {
			t.Errorf("%d digits: got %q", digits, got)
		}
	}
	for _, a := range []string{"", "00", "-1", "1x", tooLong + "x", "0" + tooLong} {
		x, err := nat.Parse(a)
		if x != nil || plain.Told(err) != api.ErrForm {
			t.Errorf("Parse(%q) = %v, %v; want ErrForm", a, x, err)
		}
	}
}

func TestOf(t *testing.T) {
	for _, n := range []uint64{0, 1, 9, 1<<32 - 1, 1 << 32, 1<<32 + 1, 7 << 32, 1<<64 - 1} {
		x := nat.Of(n)
		want := strconv.FormatUint(n, 10)
		if got := x.String(); got != want || !slices.Equal(x, parse(t, want)) {
			t.Errorf("Of(%d) = %v", n, []uint32(x))
		}
	}
}

// results are those of all methods, with the errors as text.
func results(x, y nat.Natural) []string {
	var less string
	if x.Less(y) {
		less = "true"
	}
	diff, diffErr := x.Sub(y)
	q, r, divErr := x.Div(y)
	return []string{
		x.Add(y).String(), diff.String() + plain.Told(diffErr).Error(),
		x.Mul(y).String(), q.String() + " " + r.String() + plain.Told(divErr).Error(), less,
		x.Gcd(y).String(),
	}
}

func TestLargeNaturals(t *testing.T) {
	source := rand.New(rand.NewSource(2))
	for n := uint(300); n < 6000; n += 379 {
		for m := uint(1); m < 6000; m += 401 {
			x := new(big.Int).Rand(source, new(big.Int).Lsh(big.NewInt(1), n))
			y := new(big.Int).Rand(source, new(big.Int).Lsh(big.NewInt(1), m))
			got := results(parse(t, x.String()), parse(t, y.String()))
			if want := resultsByBig(x, y); !slices.Equal(got, want) {
				t.Errorf("%v and %v: got %q, want %q", x, y, got, want)
			}
		}
	}
}

func resultsByBig(x, y *big.Int) []string {
	var list []string
	for i := range operations() {
		text, err := byBig(i, x, y)
		switch {
		case i == 1 && err != api.OK:
			text = "0" + err.Error()
		case i == 3 && err != api.OK:
			text = "0 0" + err.Error()
		case i == 1 || i == 3:
			text += err.Error()
		}
		list = append(list, text)
	}
	return append(list, new(big.Int).GCD(nil, nil, x, y).String())
}

func TestGcdOfNaturals(t *testing.T) {
	list := append(numbers(), new(big.Int).Lsh(big.NewInt(945), 40), big.NewInt(1155))
	for _, x := range list {
		for _, y := range list {
			got := parse(t, x.String()).Gcd(parse(t, y.String())).String()
			if want := new(big.Int).GCD(nil, nil, x, y).String(); got != want {
				t.Errorf("Gcd of %v and %v = %s, want %s", x, y, got, want)
			}
		}
	}
}

func TestLeadingZeros(t *testing.T) {
	lists := []nat.Natural{nil, {}, {0}, {0, 0, 0}, {5}, {5, 0, 0}, {1, 2, 3}, {1, 2, 3, 0}, {0, 0, 7, 0}}
	for _, x := range lists {
		for _, y := range lists {
			got := results(x, y)
			want := results(parse(t, x.String()), parse(t, y.String()))
			if !slices.Equal(got, want) {
				t.Errorf("%v and %v: got %q, want %q", x, y, got, want)
			}
		}
	}
}

// spare returns x in memory that goes on behind it, with marks there.
func spare(x nat.Natural) (nat.Natural, nat.Natural) {
	all := append(slices.Clone(x), 11, 12, 13)
	return all[:len(x)], all
}

// Arguments stay as they are, and writing into a result changes neither the
// arguments nor another result.
func TestMemoryOfNaturals(t *testing.T) {
	lists := []nat.Natural{{}, {0, 0}, {5}, {6, 0}, {1, 2, 3}, {0, 0, 7, 0}, {1, 2, 3, 1 << 31}}
	for _, a := range lists {
		for _, b := range lists {
			x, wholeX := spare(a)
			y, wholeY := spare(b)
			beforeX, beforeY := slices.Clone(wholeX), slices.Clone(wholeY)
			diff, _ := x.Sub(y)
			q, r, _ := x.Div(y)
			made := []nat.Natural{x.Add(y), diff, x.Mul(y), q, r, x.Gcd(y)}
			_, _ = x.String(), x.Less(y)
			for i, m := range made {
				if len(m) > 0 && m[len(m)-1] == 0 {
					t.Errorf("%v and %v: result %d is %v, with leading zeros", a, b, i, m)
				}
				later := slices.Clone(made[i+1:])
				for j := range later {
					later[j] = slices.Clone(later[j])
				}
				overwrite(m)
				for j := range later {
					if !slices.Equal(made[i+1+j], later[j]) {
						t.Errorf("%v and %v: results %d and %d share memory", a, b, i, i+1+j)
					}
				}
			}
			if !slices.Equal(wholeX, beforeX) || !slices.Equal(wholeY, beforeY) {
				t.Errorf("%v and %v: arguments became %v and %v", a, b, wholeX, wholeY)
			}
		}
	}
}

func overwrite(x nat.Natural) {
	x = x[:cap(x)]
	for i := range x {
		x[i] = 99
	}
}
