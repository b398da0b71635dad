package text_test

import (
	"math"
	"math/big"
	"math/rand/v2"
	"slices"
	"strings"
	"testing"

	"binnacle/api"
	"binnacle/text"
)

// The limits as ints, since tests negate and add to them.
const (
	one  = api.One
	most = api.MaxFix
	none = math.MinInt
)

// The greatest fixed number, and the least part, as decimals.
const (
	mostText = "2147483647.99999999976716935634613037109375"
	partText = "0.00000000023283064365386962890625"
)

// fault is what List tells of an error at a byte.
func fault(err api.Errno, at int) api.Fault { return api.Fault{Err: err, At: at} }

// ratio is the number of a decimal, in parts of 2^32.
func ratio(t *testing.T, s string) *big.Rat {
	t.Helper()
	r, ok := new(big.Rat).SetString(s)
	if !ok {
		t.Fatalf("%q is no number of the test's", s)
	}
	return r.Mul(r, big.NewRat(one, 1))
}

// nearest is the fixed number nearest to r, which is in the middle of no two.
func nearest(r *big.Rat) int {
	up := new(big.Rat).Add(r, big.NewRat(1, 2))
	n := new(big.Int).Div(up.Num(), up.Denom()) // rounds down, since what it divides by is above 0
	switch limit := big.NewInt(most); {
	case n.Cmp(limit) > 0:
		return most
	case n.Cmp(limit.Neg(limit)) < 0:
		return -most
	}
	return int(n.Int64())
}

// plain is the decimal of a fixed number, told by long numbers.
func plain(a int) string {
	s := big.NewRat(int64(a), one).FloatString(32) // has a point, so that no 0 ahead of it is taken off
	return strings.TrimSuffix(strings.TrimRight(s, "0"), ".")
}

// numbers are fixed numbers: small ones, whole ones, powers of 2 and of 10 and what is beside them, the greatest, some by chance; on both sides of 0.
func numbers() []int {
	some := []int{most, most - 1, most - 2, most / 3, most - one, most - one + 1}
	for n := range 63 {
		some = append(some, 1<<n-1, 1<<n, 1<<n+1)
	}
	for n, p := 0, 1; n < 10; n, p = n+1, p*10 {
		some = append(some, p*one-1, p*one, p*one+1, p*one+one/2)
	}
	for n := range 40 {
		some = append(some, n, n*one, n*one/8)
	}
	r := rand.New(rand.NewPCG(9, 10))
	for range 3000 {
		some = append(some, r.Int()>>r.IntN(63))
	}
	for _, a := range slices.Clone(some) {
		some = append(some, -a)
	}
	return some
}

// decimals are decimals by chance, of all lengths, none farther from 0 than 2^31.
func decimals() []string {
	r := rand.New(rand.NewPCG(11, 12))
	digits := func(n int) string {
		b := make([]byte, n)
		for k := range b {
			b[k] = byte('0' + r.IntN(10))
		}
		return string(b)
	}
	var some []string
	for k := range 6000 {
		s := big.NewInt(r.Int64N(1<<31) >> r.IntN(32)).String()
		if k%33 > 0 {
			s += "." + digits(k%33)
		}
		if r.IntN(2) == 0 {
			s = "-" + s
		}
		some = append(some, s)
	}
	return some
}

// P5.1
func TestPutWritesTheDecimal(t *testing.T) {
	for a, want := range map[int]string{
		one: "1", -one / 2: "-0.5", 1: partText, 0: "0", // the chapter's
		-1: "-" + partText, 2: "0.0000000004656612873077392578125",
		-one: "-1", one / 2: "0.5", one / 4: "0.25", 10 * one: "10", 100*one + one/2: "100.5", 105 * one: "105",
		one - 1: "0.99999999976716935634613037109375", -one + 1: "-0.99999999976716935634613037109375", -one - 1: "-1.00000000023283064365386962890625",
		one / 1024: "0.0009765625", 1 << 16: "0.0000152587890625", 1 << 15: "0.00000762939453125",
		1_000_000_000 * one: "1000000000", 2_147_483_647 * one: "2147483647", -2_147_483_647 * one: "-2147483647",
		most: mostText, -most: "-" + mostText, none: "-" + mostText, most - 1: "2147483647.9999999995343387126922607421875",
	} {
		if s := text.Put(a); s != want {
			t.Errorf("Put(%d): %s, not %s", a, s, want)
		}
	}
}

// P5.1
func TestPutIsExactOfAllNumbers(t *testing.T) {
	for _, a := range numbers() {
		if s, want := text.Put(a), plain(a); s != want {
			t.Errorf("Put(%d): %s, not %s", a, s, want)
		}
	}
}

// P5.2
func TestGetReadsDecimals(t *testing.T) {
	for s, want := range map[string]int{
		"1.5": 3 * one / 2, "-0.25": -one / 4, "2147483648": most, "0.00000000011641532182693481445312": 0, "0.00000000011641532182693481445313": 1, // the chapter's
		"0": 0, "-0": 0, "0.0": 0, "-0.0": 0, "-0.00000000000000000000000000000000": 0,
		"1": one, "-1": -one, "1.0": one, "1.10": one + 429_496_730, "0.1": 429_496_730, "-0.1": -429_496_730, "10": 10 * one, "9": 9 * one,
		"0.5": one / 2, "0.50": one / 2, "-0.5": -one / 2, "0.05": 214_748_365, "1.00000000000000000000000000000000": one,
		partText: 1, "-" + partText: -1, mostText: most, "-" + mostText: -most,
		"2147483647": 2_147_483_647 * one, "-2147483647": -2_147_483_647 * one, "1999999999": 1_999_999_999 * one,
		"-2147483648": -most, "2147483648.0": most, "-2147483648.00000000000000000000000000000000": -most,
		"2147483647.99999999999999999999999999999999": most, "-2147483647.99999999999999999999999999999999": -most,
		"0.99999999999999999999999999999999": one, "-0.99999999999999999999999999999999": -one, "0.00000000000000000000000000000001": 0, "-0.00000000000000000000000000000001": 0,
	} {
		if a, err := text.Get(s); a != want || err != api.OK {
			t.Errorf("Get(%q): %d, %d, not %d", s, a, err, want)
		}
	}
}

// P5.2: what is just nearer to 0 than a middle of two, and what is just farther from it.
func TestGetGoesToTheNearest(t *testing.T) {
	for _, a := range numbers() {
		if a == most {
			continue
		}
		middle := new(big.Rat).Add(big.NewRat(int64(a), one), big.NewRat(1, 2*one)).FloatString(33)
		nearer := middle[:len(middle)-1] // the last digit is a 5, behind a 2 or a 7
		farther := nearer[:len(nearer)-1] + string(nearer[len(nearer)-1]+1)
		wants := []int{a, a + 1}
		if a < 0 {
			slices.Reverse(wants)
		}
		for k, s := range []string{nearer, farther} {
			if got, err := text.Get(s); got != wants[k] || err != api.OK {
				t.Errorf("Get(%q): %d, %d, not %d", s, got, err, wants[k])
			}
		}
	}
}

// P5.2
func TestGetIsNearestOfAllDecimals(t *testing.T) {
	for _, s := range decimals() {
		want := nearest(ratio(t, s))
		if a, err := text.Get(s); a != want || err != api.OK {
			t.Errorf("Get(%q): %d, %d, not %d", s, a, err, want)
		}
	}
}

// P5.2
func TestGetRefusesWhatIsNoDecimal(t *testing.T) {
	for _, s := range []string{
		"01", "1.", "-", // the chapter's
		"", "--1", "-+1", "+1", "+", "1-", "-1-", "1-2", "- 1", "−1",
		"00", "-00", "-01", "00.5", "01.5", "0000000001", "000",
		".", "-.", ".5", "-.5", "0.", "-0.", "1..5", "1.2.3", "1.5.", "1,5",
		"12345678901", "10000000000", "-10000000000", "00000000000", "99999999999999999999", "10000000000.5",
		"0.000000000000000000000000000000000", "0.123456789012345678901234567890123", "-1.000000000000000000000000000000000", "2147483649.000000000000000000000000000000000",
		"a", "1a", "a1", "1a1", "0x1", "1e3", "1.5e3", "1_000", "1.a", "1.1a1", "1.-5", "1.+5", "1. 5", "/", ":", "1/", "1:", "0./", "0.:",
		" ", " 1", "1 ", "1 2", "1\n", "\t1", "1\x00", "\x00", "\xff", "1\xff1", "1.\xff", "٣", "1.٣", "½", "NaN", "Inf",
		strings.Repeat("1", 1<<20), "0." + strings.Repeat("1", 1<<20),
	} {
		if a, err := text.Get(s); a != 0 || err != api.ErrForm {
			t.Errorf("Get(%.40q): %d, %d, not ErrForm", s, a, err)
		}
	}
}

// P5.2
func TestGetRefusesWhatIsTooFar(t *testing.T) {
	for _, s := range []string{
		"2147483649", // the chapter's
		"-2147483649", "2147483648.1", "-2147483648.1", "2147483648.00000000000000000000000000000001", "-2147483648.00000000000000000000000000000001",
		"2147483648.00000000000000010000000000000000", "2147483648.00000000000000001", "2147483649.5", "3000000000", "9999999999", "-9999999999", "9999999999.99999999999999999999999999999999", "4294967296", "-4294967296", "4294967297.0",
	} {
		if a, err := text.Get(s); a != 0 || err != api.ErrRange {
			t.Errorf("Get(%q): %d, %d, not ErrRange", s, a, err)
		}
	}
}

// P5.3
func TestLineWritesAllDecimals(t *testing.T) {
	for _, c := range []struct {
		l    []int
		want string
	}{
		{nil, ""}, {[]int{}, ""}, {[]int{0}, "0"}, {[]int{one, -5 * one / 2}, "1 -2.5"}, {[]int{0, 0, 0}, "0 0 0"},
		{[]int{1, none, most}, partText + " -" + mostText + " " + mostText},
	} {
		if s := text.Line(c.l...); s != c.want {
			t.Errorf("Line(%d): %q, not %q", c.l, s, c.want)
		}
	}
}

// P5.3
func TestListReadsALine(t *testing.T) {
	for s, want := range map[string][]int{
		"": nil, "1 -2.5": {one, -5 * one / 2}, "0": {0}, "-0 0.5 2147483648": {0, one / 2, most}, "1 1 1 1": {one, one, one, one},
		"0.00000000011641532182693481445313 -2147483648": {1, -most},
	} {
		l, f := text.List(s)
		if !slices.Equal(l, want) || f != (api.Fault{}) {
			t.Errorf("List(%q): %d, %v, not %d", s, l, f, want)
		}
	}
}

// P5.3
func TestListTellsTheFirstErrorWhereItBegins(t *testing.T) {
	for s, want := range map[string]api.Fault{
		"1  2": fault(api.ErrForm, 2), // the chapter's
		"x":    fault(api.ErrForm, 0), "2147483649": fault(api.ErrRange, 0), "-": fault(api.ErrForm, 0),
		" ": fault(api.ErrForm, 0), "  ": fault(api.ErrForm, 0), " 1": fault(api.ErrForm, 0), "  1": fault(api.ErrForm, 0),
		"1 ": fault(api.ErrForm, 2), "1 2 ": fault(api.ErrForm, 4), "1.5  ": fault(api.ErrForm, 4), "1 2  3": fault(api.ErrForm, 4),
		"1 -2.5 x": fault(api.ErrForm, 7), "1 -2.5 01 3000000000": fault(api.ErrForm, 7), "1 -2.5 3000000000 01": fault(api.ErrRange, 7),
		"10 20 30 4. 50": fault(api.ErrForm, 9), "3000000000 x": fault(api.ErrRange, 0), "x 3000000000": fault(api.ErrForm, 0),
		"1\t2": fault(api.ErrForm, 0), "1\n": fault(api.ErrForm, 0), "1 2\n": fault(api.ErrForm, 2), "1 2,3": fault(api.ErrForm, 2), "1 \u00a02": fault(api.ErrForm, 2),
		"0.5 12345678901": fault(api.ErrForm, 4), "0 -2147483648.1 0": fault(api.ErrRange, 2),
	} {
		l, f := text.List(s)
		if len(l) > 0 || f != want {
			t.Errorf("List(%q): %d, %v, not %v", s, l, f, want)
		}
	}
}

// P5.3: a list is new memory, and the list that Line is handed stays as it is, its spare room too.
func TestListsAreNewMemory(t *testing.T) {
	first, _ := text.List("1 2 3")
	first[0] = 7
	_ = append(first[:1], 8)
	if second, _ := text.List("1 2 3"); !slices.Equal(second, []int{one, 2 * one, 3 * one}) {
		t.Error("a list is handed out twice:", second)
	}
	handed := []int{one, none, 3, 4}
	text.Line(handed[:2]...)
	if !slices.Equal(handed, []int{one, none, 3, 4}) {
		t.Error("Line changed what it was handed:", handed)
	}
}

// P5.4
func TestWhatIsPutIsGot(t *testing.T) {
	all := numbers()
	for _, a := range all {
		if got, err := text.Get(text.Put(a)); got != a || err != api.OK {
			t.Errorf("Get(Put(%d)): %d, %d", a, got, err)
		}
	}
	if got, f := text.List(text.Line(all...)); !slices.Equal(got, all) || f != (api.Fault{}) {
		t.Error("List of Line is another list;", f)
	}
	if got, err := text.Get(text.Put(none)); got != -most || err != api.OK {
		t.Errorf("Get(Put(-2^63)): %d, %d", got, err)
	}
}

// P5.4: but where what is nearest is beyond MaxFix.
func TestWhatIsGotIsHalfAPartAwayAtMost(t *testing.T) {
	half := big.NewRat(1, 2)
	for _, s := range decimals() {
		a, _ := text.Get(s)
		off := ratio(t, s)
		off.Sub(off, big.NewRat(int64(a), 1)).Abs(off)
		if off.Cmp(half) > 0 && a != most && a != -most {
			t.Errorf("Get(%q): %d is off by %v", s, a, off)
		}
	}
}
