package fix_test

import (
	"math"
	"math/big"
	"math/rand/v2"
	"testing"

	"binnacle/api"
	"binnacle/fix"
)

// The limits as ints, since tests negate and add to them.
const (
	one  = api.One
	most = api.MaxFix
	none = math.MinInt
)

// call is one of the functions of two numbers, what it is of whole numbers of any length, and its name.
type call struct {
	name  string
	fixed func(a, b int) (int, bool)
	plain func(a, b *big.Int) *big.Int
}

// calls are all of them; Div's plain one is not asked for a divisor of 0.
func calls() []call {
	return []call{
		{"Add", fix.Add, func(a, b *big.Int) *big.Int { return new(big.Int).Add(a, b) }},
		{"Sub", fix.Sub, func(a, b *big.Int) *big.Int { return new(big.Int).Sub(a, b) }},
		{"Half", fix.Half, func(a, b *big.Int) *big.Int { return nearest(new(big.Int).Add(a, b), big.NewInt(2)) }},
		{"Mul", fix.Mul, func(a, b *big.Int) *big.Int { return nearest(new(big.Int).Mul(a, b), big.NewInt(one)) }},
		{"Div", fix.Div, func(a, b *big.Int) *big.Int { return nearest(new(big.Int).Mul(a, big.NewInt(one)), b) }},
	}
}

// nearest is n / d, to the nearest one, halves to the even one: by the floor of (2n + d) / 2d, less one where that was a half and is odd.
func nearest(n, d *big.Int) *big.Int {
	if d.Sign() < 0 {
		n, d = new(big.Int).Neg(n), new(big.Int).Neg(d)
	}
	sum := new(big.Int).Add(new(big.Int).Lsh(n, 1), d)
	q, left := new(big.Int).DivMod(sum, new(big.Int).Lsh(d, 1), new(big.Int))
	if left.Sign() == 0 && q.Bit(0) == 1 {
		q.Sub(q, big.NewInt(1))
	}
	return q
}

// fit is the nearest fixed number to n, and whether it is another one.
func fit(n *big.Int) (int, bool) {
	if limit := big.NewInt(most); n.CmpAbs(limit) > 0 {
		return n.Sign() * most, true
	}
	return int(n.Int64()), false
}

// taken is the fixed number that a is taken for, and whether it is another one.
func taken(a int) (*big.Int, bool) {
	if a == none {
		return big.NewInt(-most), true
	}
	return big.NewInt(int64(a)), false
}

// numbers are the edges of ints and of fixed numbers, and some between.
func numbers() []int {
	some := []int{
		none, -most, -most + 1, -most + 2, -1 << 62, -1<<62 - 1, -most / 3, -one*one/4 - 1, -3 * one, -one - 1, -one, -one + 1, -one / 2, -3 * one / 2, -1<<31 - 1, -1<<31 + 1,
		-7, -6, -5, -4, -3, -2, -1, 0, 1, 2, 3, 4, 5, 6, 7,
		1<<31 - 1, one / 2, 1<<31 + 1, one - 1, one, one + 1, 3 * one / 2, 2 * one, 3 * one, 1 << 47, 3 << 46, 1 << 61, 1<<62 - 1, 1 << 62, 1<<62 + 1, most / 3, most - 2, most - 1, most,
	}
	r := rand.New(rand.NewPCG(5, 6))
	for range 60 {
		some = append(some, int(r.Uint64())>>r.IntN(64))
	}
	return some
}

// expect fails unless got and cut are as told.
func expect(t *testing.T, name string, a, b, got int, cut bool, want int, wantCut bool) {
	t.Helper()
	if got != want || cut != wantCut {
		t.Errorf("%s of %d, %d: %d, %v, not %d, %v", name, a, b, got, cut, want, wantCut)
	}
}

// row is what a call is given, and what it answers.
type row struct {
	a, b, want int
	cut        bool
}

// hold fails where f answers otherwise than the rows say.
func hold(t *testing.T, name string, f func(a, b int) (int, bool), rows []row) {
	t.Helper()
	for _, x := range rows {
		got, cut := f(x.a, x.b)
		expect(t, name, x.a, x.b, got, cut, x.want, x.cut)
	}
}

func TestSums(t *testing.T) { // P2.1
	hold(t, "Add", fix.Add, []row{
		{one, one, 2 * one, false}, {3, -5, -2, false}, {0, 0, 0, false},
		{most, 0, most, false}, {most, 1, most, true}, {most - 1, 1, most, false}, {most, most, most, true},
		{-most, 0, -most, false}, {-most, -1, -most, true}, {-most, -most, -most, true}, {most, -most, 0, false},
		{none, 0, -most, true}, {0, none, -most, true}, {none, 5, -most + 5, true}, {5, none, -most + 5, true}, {none, most, 0, true}, {none, none, -most, true},
	})
	hold(t, "Sub", fix.Sub, []row{
		{one, one, 0, false}, {3, 5, -2, false}, {-most, 1, -most, true}, {-most + 1, 1, -most, false}, {most, -1, most, true}, {-1, most, -most, true}, {0, most, -most, false}, {0, -most, most, false},
		{none, 0, -most, true}, {0, none, most, true}, {none, none, 0, true}, {none, -most, 0, true}, {-5, none, most - 5, true}, {none, -5, -most + 5, true}, {1, none, most, true},
	})
	for _, x := range []struct {
		a, want int
		cut     bool
	}{{0, 0, false}, {7, -7, false}, {-7, 7, false}, {most, -most, false}, {-most, most, false}, {none, most, true}} {
		got, cut := fix.Neg(x.a)
		expect(t, "Neg", x.a, 0, got, cut, x.want, x.cut)
	}
}

func TestHalf(t *testing.T) { // P2.1
	hold(t, "Half", fix.Half, []row{
		{1, 2, 2, false}, {2, 3, 2, false}, {-1, -2, -2, false}, {-2, -3, -2, false}, {0, 1, 0, false}, {0, -1, 0, false}, {1, 0, 0, false}, {3, 4, 4, false}, {4, 6, 5, false}, {-1, 2, 0, false}, {-1, 4, 2, false}, {1, -4, -2, false},
		{most, most, most, false}, {most, most - 1, most - 1, false}, {most - 1, most - 2, most - 1, false}, {-most, -most, -most, false}, {-most, -most + 1, -most + 1, false}, {most, -most, 0, false}, {most, 0, 1 << 62, false}, {most - 2, 0, 1<<62 - 2, false},
		{none, 0, -1 << 62, true}, {0, none, -1 << 62, true}, {none, none, -most, true}, {none, most, 0, true}, {none, 1, -1<<62 + 1, true},
	})
}

func TestProducts(t *testing.T) { // P2.2
	hold(t, "Mul", fix.Mul, []row{
		{one / 2, one / 2, one / 4, false}, {3 * one, -2 * one, -6 * one, false}, {0, most, 0, false}, {-most, 0, 0, false},
		{1, one / 2, 0, false}, {3, one / 2, 2, false}, {5, one / 2, 2, false}, {-1, one / 2, 0, false}, {-3, one / 2, -2, false}, {-5, one / 2, -2, false}, {-3, -one / 2, 2, false}, {1, one/2 + 1, 1, false}, {1, one/2 - 1, 0, false}, {-1, one/2 + 1, -1, false}, {1, 1, 0, false},
		{most, one, most, false}, {-most, one, -most, false}, {most, -one, -most, false}, {-most, -one, most, false}, {most, one + 1, most, true}, {most, 2 * one, most, true}, {most, -2 * one, -most, true}, {most, most, most, true}, {-most, most, -most, true}, {-most, -most, most, true},
		{1 << 47, 1 << 48, most, true}, {1 << 47, 1 << 47, 1 << 62, false}, {1 << 47, -1 << 48, -most, true}, {1<<48 - 1, 1 << 47, 1<<63 - 1<<15, false},
		{none, one, -most, true}, {one, none, -most, true}, {none, 0, 0, true}, {0, none, 0, true}, {none, 1, -1 << 31, true}, {none, none, most, true}, {none, -one, most, true}, {none, one / 2, -1 << 62, true},
	})
}

func TestWhole(t *testing.T) { // P2.2
	for _, x := range []struct {
		n, want int
		cut     bool
	}{
		{0, 0, false}, {7, 7 * one, false}, {-7, -7 * one, false}, {1<<31 - 1, (1<<31 - 1) * one, false}, {1 << 31, most, true}, {1<<31 + 1, most, true}, {1 << 32, most, true}, {1 << 62, most, true}, {math.MaxInt, most, true},
		{-1<<31 + 1, (-1<<31 + 1) * one, false}, {-1 << 31, -most, true}, {-1<<31 - 1, -most, true}, {-1 << 32, -most, true}, {-math.MaxInt, -most, true}, {math.MinInt, -most, true},
	} {
		got, cut := fix.Whole(x.n)
		expect(t, "Whole", x.n, 0, got, cut, x.want, x.cut)
	}
	for _, n := range numbers() {
		got, cut := fix.Whole(n)
		want, wantCut := fit(new(big.Int).Mul(big.NewInt(int64(n)), big.NewInt(one)))
		expect(t, "Whole", n, 0, got, cut, want, wantCut)
	}
}

func TestQuotients(t *testing.T) { // P2.3
	hold(t, "Div", fix.Div, []row{
		{one, 3 * one, 1431655765, false}, {2 * one, 3 * one, 2863311531, false}, {-one, 3 * one, -1431655765, false}, {one, -3 * one, -1431655765, false}, {-2 * one, -3 * one, 2863311531, false}, {0, 5, 0, false}, {0, -5, 0, false},
		{1, 2 * one, 0, false}, {3, 2 * one, 2, false}, {5, 2 * one, 2, false}, {-1, 2 * one, 0, false}, {-3, 2 * one, -2, false}, {-6, 4 * one, -2, false}, {3, -2 * one, -2, false}, {1, 2*one - 1, 1, false}, {1, 2*one + 1, 0, false},
		{most, one, most, false}, {-most, one, -most, false}, {most, -one, -most, false}, {most, one - 1, most, true}, {most, -one + 1, -most, true}, {most, 1, most, true}, {-most, 1, -most, true}, {most, -1, -most, true}, {most, most, one, false}, {most, -most, -one, false},
		{1<<31 - 1, 1, (1<<31 - 1) * one, false}, {1 << 31, 1, most, true}, {-1 << 31, 1, -most, true}, {1, most, 0, false}, {1<<30 - 1, most, 0, false}, {1 << 30, most, 1, false},
		{none, one, -most, true}, {none, none, one, true}, {none, most, -one, true}, {most, none, -one, true}, {one, none, -2, true}, {0, none, 0, true}, {none, -one, most, true},
	})
}

func TestDividedByNothing(t *testing.T) { // P2.3
	hold(t, "Div", fix.Div, []row{
		{0, 0, 0, true}, {1, 0, most, true}, {-1, 0, -most, true}, {-5, 0, -most, true}, {one, 0, most, true}, {most, 0, most, true}, {-most, 0, -most, true}, {none, 0, -most, true},
	})
	for _, a := range numbers() {
		got, cut := fix.Div(a, 0)
		expect(t, "Div", a, 0, got, cut, big.NewInt(int64(a)).Sign()*most, true)
	}
}

func TestAsWholeNumbers(t *testing.T) { // P2.1, P2.2, P2.3
	for _, c := range calls() {
		for _, a := range numbers() {
			for _, b := range numbers() {
				if c.name == "Div" && b == 0 {
					continue
				}
				x, noneA := taken(a)
				y, noneB := taken(b)
				want, wantCut := fit(c.plain(x, y))
				got, cut := c.fixed(a, b)
				expect(t, c.name, a, b, got, cut, want, wantCut || noneA || noneB)
			}
		}
	}
	for _, a := range numbers() {
		x, isNone := taken(a)
		got, cut := fix.Neg(a)
		expect(t, "Neg", a, 0, got, cut, int(-x.Int64()), isNone)
	}
}

func TestAnyOrder(t *testing.T) { // P2.4
	for _, f := range []func(a, b int) (int, bool){fix.Add, fix.Half, fix.Mul} {
		for _, a := range numbers() {
			for _, b := range numbers() {
				got, cut := f(a, b)
				want, wantCut := f(b, a)
				expect(t, "in another order", a, b, got, cut, want, wantCut)
			}
		}
	}
}

func TestTheOtherSide(t *testing.T) { // P2.4
	for _, a := range numbers() {
		for _, b := range numbers() {
			if a == none || b == none {
				continue
			}
			sum, sumCut := fix.Add(a, b)
			got, cut := fix.Add(-a, -b)
			expect(t, "Add of the negatives", a, b, got, cut, -sum, sumCut)
			product, productCut := fix.Mul(a, b)
			got, cut = fix.Mul(-a, -b)
			expect(t, "Mul of the negatives", a, b, got, cut, product, productCut)
		}
	}
}

func TestNeutral(t *testing.T) { // P2.4
	for _, a := range numbers() {
		x, isNone := taken(a)
		want := int(x.Int64())
		for name, f := range map[string]func(int) (int, bool){
			"Add of 0":   func(a int) (int, bool) { return fix.Add(a, 0) },
			"Sub of 0":   func(a int) (int, bool) { return fix.Sub(a, 0) },
			"Mul of One": func(a int) (int, bool) { return fix.Mul(a, one) },
			"Div by One": func(a int) (int, bool) { return fix.Div(a, one) },
		} {
			got, cut := f(a)
			expect(t, name, a, 0, got, cut, want, isNone)
		}
	}
}

// rises fails if f comes to less at a greater number.
func rises(t *testing.T, name string, lesser, greater, b int, f func(a, b int) (int, bool)) {
	t.Helper()
	x, _ := f(lesser, b)
	y, _ := f(greater, b)
	if x > y {
		t.Errorf("%s with %d: of %d %d, but of %d %d", name, b, lesser, x, greater, y)
	}
	if x < -most || y < -most {
		t.Errorf("%s with %d of %d, %d: %d, %d", name, b, lesser, greater, x, y)
	}
}

func TestNothingGreaterComesToLess(t *testing.T) { // P2.4
	for _, a := range numbers() {
		for _, c := range numbers() {
			for _, b := range numbers() {
				lesser, greater := min(a, c), max(a, c)
				rises(t, "Add", lesser, greater, b, fix.Add)
				rises(t, "Half", lesser, greater, b, fix.Half)
				if b >= 0 {
					rises(t, "Mul", lesser, greater, b, fix.Mul)
				}
				if b > 0 {
					rises(t, "Div", lesser, greater, b, fix.Div)
				}
			}
		}
	}
}

func TestNothingBelow(t *testing.T) { // P2.4
	for _, c := range calls() {
		for _, a := range numbers() {
			for _, b := range numbers() {
				if got, _ := c.fixed(a, b); got < -most {
					t.Errorf("%s of %d, %d: %d", c.name, a, b, got)
				}
			}
		}
	}
}

func TestTakenAwayAgain(t *testing.T) { // P2.5
	for _, a := range numbers() {
		for _, b := range numbers() {
			sum, cut := fix.Add(a, b)
			if cut {
				continue
			}
			got, cut := fix.Sub(sum, b)
			expect(t, "Sub behind Add", a, b, got, cut, a, false)
		}
	}
}

func TestMultipliedAgain(t *testing.T) { // P2.5
	for _, a := range numbers() {
		for _, b := range numbers() {
			q, cut := fix.Div(a, b)
			if cut {
				continue
			}
			got, cut := fix.Mul(q, b)
			if cut {
				continue
			}
			off := new(big.Int).Sub(big.NewInt(int64(got)), big.NewInt(int64(a)))
			far := new(big.Int).Abs(big.NewInt(int64(b)))
			far.Add(far, big.NewInt(2*one)) // |b| / 2^33 and 1, both times 2^33
			if off.Lsh(off, 33).CmpAbs(far) > 0 {
				t.Errorf("%d divided by %d is %d, and multiplied again %d", a, b, q, got)
			}
		}
	}
}
