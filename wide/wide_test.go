package wide_test

import (
	"math"
	"math/big"
	"math/rand/v2"
	"testing"

	"binnacle/api"
	"binnacle/wide"
)

// w is a wide number.
func w(hi int, lo uint64) api.Wide { return api.Wide{Hi: hi, Lo: lo} }

var (
	least    = w(math.MinInt, 0)
	greatest = w(math.MaxInt, math.MaxUint64)
)

// plain is a wide number as a whole number of any length.
func plain(a api.Wide) *big.Int {
	n := new(big.Int).Lsh(big.NewInt(int64(a.Hi)), 64)
	return n.Add(n, new(big.Int).SetUint64(a.Lo))
}

// round is n modulo 2^128, as a wide number.
func round(n *big.Int) api.Wide {
	lo := new(big.Int).And(n, new(big.Int).SetUint64(math.MaxUint64))
	hi := new(big.Int).Rsh(n, 64)
	hi.And(hi, new(big.Int).SetUint64(math.MaxUint64))
	return w(int(hi.Uint64()), lo.Uint64())
}

// nearest is n / d, to the nearest one, halves to the even one: by the floor of (2n + d) / 2d, less one where that was a half and is odd.
func nearest(n, d *big.Int) *big.Int {
	if d.Sign() < 0 {
		n, d = new(big.Int).Neg(n), new(big.Int).Neg(d)
	}
	twice := new(big.Int).Lsh(d, 1)
	sum := new(big.Int).Add(new(big.Int).Lsh(n, 1), d)
	q, left := new(big.Int).DivMod(sum, twice, new(big.Int))
	if left.Sign() == 0 && q.Bit(0) == 1 {
		q.Sub(q, big.NewInt(1))
	}
	return q
}

// ints are the edges of ints, and some between.
func ints() []int {
	some := []int{
		math.MinInt, math.MinInt + 1, math.MinInt + 2, math.MinInt / 2, -math.MaxInt / 3, -api.One - 1, -api.One,
		-7, -6, -5, -4, -3, -2, -1, 0, 1, 2, 3, 4, 5, 6, 7,
		api.One - 1, api.One, api.One + 1, 1<<31 + 1, 1 << 61, 1 << 62, 1<<62 + 1, math.MaxInt / 3, math.MaxInt - 1, math.MaxInt,
	}
	r := rand.New(rand.NewPCG(1, 2))
	for range 40 {
		some = append(some, int(r.Uint64())>>r.IntN(64))
	}
	return some
}

// wides are the edges of wide numbers, and some between.
func wides() []api.Wide {
	some := []api.Wide{
		least, w(math.MinInt, 1), w(math.MinInt, math.MaxUint64), w(math.MinInt/2, 0), w(-2, math.MaxUint64), w(-2, 0), w(-1, 0), w(-1, 1),
		w(-1, 1<<63-1), w(-1, 1<<63), w(-1, 1<<63+1), w(-1, math.MaxUint64), w(0, 0), w(0, 1), w(0, 2), w(0, 3),
		w(0, 1<<63-1), w(0, 1<<63), w(0, 1<<63+1), w(0, math.MaxUint64), w(1, 0), w(1, 1), w(1, 1<<63), w(2, 0),
		w(1<<62, 0), w(1<<62, 1), w(1<<62-1, math.MaxUint64), w(math.MaxInt, 0), w(math.MaxInt, math.MaxUint64-1), greatest,
	}
	r := rand.New(rand.NewPCG(3, 4))
	for range 40 {
		n := plain(w(int(r.Uint64()), r.Uint64()))
		some = append(some, round(n.Rsh(n, uint(r.IntN(128)))))
	}
	return some
}

// same fails unless got is want modulo 2^128.
func same(t *testing.T, got api.Wide, want *big.Int, call string, given ...any) {
	t.Helper()
	if got != round(want) {
		t.Errorf("%s of %v: %v, not %v", call, given, got, round(want))
	}
}

func TestReckoned(t *testing.T) { // P1.1
	for _, x := range []struct {
		call      string
		got, want api.Wide
	}{
		{"Of(-1)", wide.Of(-1), w(-1, math.MaxUint64)},
		{"Of(0)", wide.Of(0), w(0, 0)},
		{"Of(-2^63)", wide.Of(math.MinInt), w(-1, 1<<63)},
		{"Of(2^63 - 1)", wide.Of(math.MaxInt), w(0, 1<<63-1)},
		{"Add(-1, 1)", wide.Add(wide.Of(-1), wide.Of(1)), w(0, 0)},
		{"Add(2^64 - 1, 1)", wide.Add(w(0, math.MaxUint64), wide.Of(1)), w(1, 0)},
		{"Add(2^127 - 1, 1)", wide.Add(greatest, wide.Of(1)), least},
		{"Add(-2^127, -1)", wide.Add(least, wide.Of(-1)), greatest},
		{"Neg(7)", wide.Neg(wide.Of(7)), w(-1, math.MaxUint64-6)},
		{"Neg(0)", wide.Neg(wide.Of(0)), w(0, 0)},
		{"Neg(2^64)", wide.Neg(w(1, 0)), w(-1, 0)},
		{"Neg(2^127 - 1)", wide.Neg(greatest), w(math.MinInt, 1)},
		{"Neg(-2^127)", wide.Neg(least), least},
		{"Mul(2^62, 8)", wide.Mul(1<<62, 8), w(2, 0)},
		{"Mul(-3, 5)", wide.Mul(-3, 5), w(-1, math.MaxUint64-14)},
		{"Mul(-3, 0)", wide.Mul(-3, 0), w(0, 0)},
		{"Mul(-2^63, -2^63)", wide.Mul(math.MinInt, math.MinInt), w(1<<62, 0)},
		{"Mul(-2^63, 2^63 - 1)", wide.Mul(math.MinInt, math.MaxInt), w(-1<<62, 1<<63)},
		{"Mul(-2^63, -1)", wide.Mul(math.MinInt, -1), w(0, 1<<63)},
	} {
		if x.got != x.want {
			t.Errorf("%s: %v, not %v", x.call, x.got, x.want)
		}
	}
}

func TestReckonedAsWholeNumbers(t *testing.T) { // P1.1
	for _, a := range ints() {
		same(t, wide.Of(a), big.NewInt(int64(a)), "Of", a)
		for _, b := range ints() {
			same(t, wide.Mul(a, b), new(big.Int).Mul(big.NewInt(int64(a)), big.NewInt(int64(b))), "Mul", a, b)
		}
	}
	for _, a := range wides() {
		same(t, wide.Neg(a), new(big.Int).Neg(plain(a)), "Neg", a)
		for _, b := range wides() {
			same(t, wide.Add(a, b), new(big.Int).Add(plain(a), plain(b)), "Add", a, b)
			if got, want := wide.Cmp(a, b), plain(a).Cmp(plain(b)); got != want {
				t.Errorf("Cmp of %v, %v: %d, not %d", a, b, got, want)
			}
		}
	}
}

func TestCompared(t *testing.T) { // P1.1
	for _, x := range []struct {
		a, b api.Wide
		want int
	}{
		{least, greatest, -1}, {greatest, least, 1}, {least, least, 0}, {greatest, greatest, 0},
		{w(-1, math.MaxUint64), w(0, 0), -1}, {w(0, 0), w(-1, math.MaxUint64), 1},
		{w(0, 1<<63), w(0, 1), 1}, {w(-1, 1), w(-1, 1<<63), -1}, {w(-2, math.MaxUint64), w(-1, 0), -1}, {w(3, 3), w(3, 3), 0}, {w(3, 9), w(4, 1), -1},
	} {
		if got := wide.Cmp(x.a, x.b); got != x.want {
			t.Errorf("Cmp of %v, %v: %d, not %d", x.a, x.b, got, x.want)
		}
	}
}

func TestRound(t *testing.T) { // P1.2
	for _, x := range []struct {
		a    api.Wide
		bits int
		want api.Wide
	}{
		{wide.Of(5), 1, wide.Of(2)}, {wide.Of(7), 1, wide.Of(4)}, {wide.Of(-5), 1, wide.Of(-2)}, {wide.Of(-7), 1, wide.Of(-4)},
		{wide.Of(6), 2, wide.Of(2)}, {wide.Of(2), 2, wide.Of(0)}, {wide.Of(-2), 2, wide.Of(0)}, {wide.Of(-6), 2, wide.Of(-2)},
		{wide.Of(1), 1, wide.Of(0)}, {wide.Of(-1), 1, wide.Of(0)}, {wide.Of(3), 1, wide.Of(2)}, {wide.Of(-3), 1, wide.Of(-2)},
		{least, 0, least}, {greatest, 0, greatest}, {wide.Of(-1), 0, wide.Of(-1)},
		{least, 1, w(-1<<62, 0)}, {greatest, 1, w(1<<62, 0)},
		{least, 127, wide.Of(-1)}, {greatest, 127, wide.Of(1)},
		{w(1<<62, 0), 127, wide.Of(0)}, {w(1<<62, 1), 127, wide.Of(1)}, {w(-1<<62, 0), 127, wide.Of(0)}, {w(-1<<62-1, math.MaxUint64), 127, wide.Of(-1)},
		{least, 126, wide.Of(-2)}, {w(3<<61, 0), 126, wide.Of(2)}, {w(3<<61-1, math.MaxUint64), 126, wide.Of(1)},
		{w(5, 0), 64, wide.Of(5)}, {w(5, 1<<63), 64, wide.Of(6)}, {w(4, 1<<63), 64, wide.Of(4)}, {w(4, 1<<63+1), 64, wide.Of(5)},
		{w(0, math.MaxUint64), 1, w(0, 1<<63)}, {w(0, 1<<63), 63, wide.Of(1)}, {w(0, 3<<62), 63, wide.Of(2)},
		{w(1, math.MaxUint64), 1, w(1, 0)},
	} {
		if got, e := wide.Round(x.a, x.bits); got != x.want || e != api.OK {
			t.Errorf("Round of %v, %d: %v, %v, not %v", x.a, x.bits, got, e, x.want)
		}
	}
	for _, a := range wides() {
		for n := range 128 {
			got, e := wide.Round(a, n)
			if e != api.OK {
				t.Errorf("Round of %v, %d: %v", a, n, e)
			}
			same(t, got, nearest(plain(a), new(big.Int).Lsh(big.NewInt(1), uint(n))), "Round", a, n)
		}
	}
}

func TestDiv(t *testing.T) { // P1.2
	for _, x := range []struct {
		a    api.Wide
		d    int
		want api.Wide
	}{
		{wide.Of(7), 2, wide.Of(4)}, {wide.Of(5), 2, wide.Of(2)}, {wide.Of(-7), 3, wide.Of(-2)}, {wide.Of(7), -2, wide.Of(-4)}, {wide.Of(-5), -2, wide.Of(2)},
		{wide.Of(-8), 3, wide.Of(-3)}, {wide.Of(0), -5, wide.Of(0)}, {wide.Of(1), 2, wide.Of(0)}, {wide.Of(-1), 2, wide.Of(0)}, {wide.Of(3), -2, wide.Of(-2)},
		{wide.Of(math.MinInt), -1, w(0, 1<<63)}, {wide.Of(math.MinInt), math.MinInt, wide.Of(1)}, {wide.Of(math.MaxInt), math.MinInt, wide.Of(-1)},
		{least, 1, least}, {least, -1, least}, {greatest, 1, greatest}, {greatest, -1, w(math.MinInt, 1)},
		{least, math.MinInt, w(1, 0)}, {greatest, math.MinInt, w(-1, 0)}, {least, 2, w(-1<<62, 0)}, {greatest, 2, w(1<<62, 0)},
		{wide.Of(1 << 62), math.MinInt, wide.Of(0)}, {wide.Of(1<<62 + 1), math.MinInt, wide.Of(-1)}, {w(0, 3<<62), math.MinInt, wide.Of(-2)},
		{w(0, math.MaxUint64), 2, w(0, 1<<63)}, {w(1, math.MaxUint64), 2, w(1, 0)},
	} {
		if got, e := wide.Div(x.a, x.d); got != x.want || e != api.OK {
			t.Errorf("Div of %v, %d: %v, %v, not %v", x.a, x.d, got, e, x.want)
		}
	}
	for _, a := range wides() {
		for _, d := range ints() {
			if d == 0 {
				continue
			}
			got, e := wide.Div(a, d)
			if e != api.OK {
				t.Errorf("Div of %v, %d: %v", a, d, e)
			}
			same(t, got, nearest(plain(a), big.NewInt(int64(d))), "Div", a, d)
		}
	}
}

func TestRefused(t *testing.T) { // P1.2
	for _, a := range wides() {
		for _, n := range []int{math.MinInt, math.MinInt + 1, -128, -1, 128, 129, 256, math.MaxInt} {
			if got, e := wide.Round(a, n); got != (api.Wide{}) || e != api.ErrArg {
				t.Errorf("Round of %v, %d: %v, %v", a, n, got, e)
			}
		}
		if got, e := wide.Div(a, 0); got != (api.Wide{}) || e != api.ErrArg {
			t.Errorf("Div of %v, 0: %v, %v", a, got, e)
		}
	}
}

func TestFit(t *testing.T) { // P1.3
	for _, x := range []struct {
		a    api.Wide
		want int
		cut  bool
	}{
		{wide.Of(-7), -7, false}, {wide.Of(7), 7, false}, {wide.Of(0), 0, false},
		{w(0, 1<<63-1), api.MaxFix, false}, {w(0, 1<<63), api.MaxFix, true}, {w(0, math.MaxUint64), api.MaxFix, true}, {w(1, 0), api.MaxFix, true}, {w(1, 5), api.MaxFix, true}, {greatest, api.MaxFix, true},
		{w(-1, 1<<63+1), -api.MaxFix, false}, {w(-1, 1<<63), -api.MaxFix, true}, {w(-1, 1<<63-1), -api.MaxFix, true}, {w(-1, 0), -api.MaxFix, true}, {w(-2, math.MaxUint64), -api.MaxFix, true}, {least, -api.MaxFix, true},
	} {
		if got, cut := wide.Fit(x.a); got != x.want || cut != x.cut {
			t.Errorf("Fit of %v: %d, %v, not %d, %v", x.a, got, cut, x.want, x.cut)
		}
	}
	for _, n := range ints() {
		if n == math.MinInt {
			continue
		}
		if got, cut := wide.Fit(wide.Of(n)); got != n || cut {
			t.Errorf("Fit of %d: %d, %v", n, got, cut)
		}
	}
}

func TestAnyOrder(t *testing.T) { // P1.4
	all := wides()
	for i, a := range all {
		if wide.Add(a, wide.Neg(a)) != wide.Of(0) || wide.Add(a, wide.Of(0)) != a || wide.Neg(wide.Neg(a)) != a {
			t.Errorf("%v is not taken away again", a)
		}
		for j, b := range all {
			c := all[(i+3*j)%len(all)]
			if wide.Add(a, b) != wide.Add(b, a) || wide.Add(wide.Add(a, b), c) != wide.Add(a, wide.Add(b, c)) {
				t.Errorf("the sum of %v, %v, %v hangs on their order", a, b, c)
			}
		}
	}
	for i, a := range ints() {
		if wide.Mul(a, 1) != wide.Of(a) || wide.Mul(a, -1) != wide.Neg(wide.Of(a)) {
			t.Errorf("%d times one is another number", a)
		}
		for j, b := range ints() {
			if wide.Mul(a, b) != wide.Mul(b, a) {
				t.Errorf("the product of %d, %d hangs on their order", a, b)
			}
			c := i - j
			if s := a>>1 + b>>1; wide.Mul(s, c) != wide.Add(wide.Mul(a>>1, c), wide.Mul(b>>1, c)) {
				t.Errorf("%d times %d is not the sum of the products", s, c)
			}
		}
	}
}

func TestDividedAgain(t *testing.T) { // P1.4
	for _, a := range ints() {
		for _, b := range ints() {
			if b == 0 {
				continue
			}
			if got, e := wide.Div(wide.Mul(a, b), b); got != wide.Of(a) || e != api.OK {
				t.Errorf("%d times %d, divided again: %v, %v", a, b, got, e)
			}
		}
		for n := range 63 {
			if got, e := wide.Round(wide.Mul(a, 1<<n), n); got != wide.Of(a) || e != api.OK {
				t.Errorf("%d times 2^%d, divided again: %v, %v", a, n, got, e)
			}
		}
	}
}

// halfStep tells whether q times d is no more than half of d away from a.
func halfStep(a, q api.Wide, d *big.Int) bool {
	off := new(big.Int).Sub(plain(a), new(big.Int).Mul(plain(q), d))
	return off.Lsh(off, 1).CmpAbs(d) <= 0
}

func TestHalfAStep(t *testing.T) { // P1.4
	for _, a := range wides() {
		for n := range 128 {
			q, _ := wide.Round(a, n)
			if !halfStep(a, q, new(big.Int).Lsh(big.NewInt(1), uint(n))) {
				t.Errorf("Round of %v, %d: %v is too far", a, n, q)
			}
			if p, _ := wide.Round(wide.Neg(a), n); a != least && p != wide.Neg(q) {
				t.Errorf("Round of %v, %d is %v; below 0 %v", a, n, q, p)
			}
		}
		for _, d := range ints() {
			if d == 0 || a == least && d == -1 { // 2^127 goes round
				continue
			}
			q, _ := wide.Div(a, d)
			if !halfStep(a, q, big.NewInt(int64(d))) {
				t.Errorf("Div of %v, %d: %v is too far", a, d, q)
			}
			if p, _ := wide.Div(wide.Neg(a), d); a != least && p != wide.Neg(q) {
				t.Errorf("Div of %v, %d is %v; below 0 %v", a, d, q, p)
			}
		}
	}
}
