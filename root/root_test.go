package root_test

import (
	"math"
	"math/big"
	"math/rand/v2"
	"slices"
	"testing"

	"binnacle/api"
	"binnacle/fix"
	"binnacle/root"
	"binnacle/wide"
)

// The limits as ints, since tests negate and add to them.
const (
	one  = api.One
	most = api.MaxFix
	none = math.MinInt
)

// w is a wide number.
func w(hi int, lo uint64) api.Wide { return api.Wide{Hi: hi, Lo: lo} }

// whole is n as a number of any length.
func whole(n int) *big.Int { return big.NewInt(int64(n)) }

// plain is a wide number as a number of any length.
func plain(a api.Wide) *big.Int {
	n := new(big.Int).Lsh(whole(a.Hi), 64)
	return n.Add(n, new(big.Int).SetUint64(a.Lo))
}

// nearest is the number that is nearest to the root of n: half of what is the root of four times n and one more.
func nearest(n *big.Int) *big.Int {
	r := new(big.Int).Lsh(n, 2)
	r.Sqrt(r).Add(r, big.NewInt(1))
	return r.Rsh(r, 1)
}

// taken is what stands for a where a fixed number is asked for, and whether a is none.
func taken(a int) (int, bool) {
	if a == none {
		return -most, true
	}
	return a, false
}

// roots are numbers whose squares are told apart, from 0 to 2^63 - 1.
func roots() []int {
	some := []int{most, most - 1, most - 2, most / 3, 3037000499, 3037000500}
	for n := range 63 {
		some = append(some, 1<<n-1, 1<<n, 1<<n+1)
	}
	for n := range 70 {
		some = append(some, n)
	}
	r := rand.New(rand.NewPCG(7, 8))
	for range 400 {
		some = append(some, int(r.Uint64()>>1)>>r.IntN(63))
	}
	return some
}

// numbers are the edges of ints and of fixed numbers, and some between.
func numbers() []int {
	some := []int{
		none, -most, -most + 1, -1<<62 - 1, -1 << 62, -most / 3, -4294967297, -one, -3037000500, -3037000499, -7, -4, -3, -2, -1, 0, 1, 2, 3, 4, 5, 6, 7, 8,
		65535, 65536, 65537, 1<<31 - 1, 1 << 31, one - 2, one - 1, one, one + 1, one + 2, 3037000499, 3037000500, 2 * one, 3 * one, 4*one - 2, 4*one - 1, 4 * one, 4*one + 1, 4*one + 2, 4*one + 3,
		1 << 61, 1<<62 - 1, 1 << 62, 1<<62 + 1, most / 3, 6521908912666391105, 6521908912666391106, 6521908912666391107, most - 2, most - 1, most,
	}
	r := rand.New(rand.NewPCG(9, 10))
	for range 100 {
		some = append(some, int(r.Uint64())>>r.IntN(64))
	}
	return some
}

// around are the numbers next to the square of n, up to the last one ahead of the next square.
func around(n int) []api.Wide {
	square := wide.Mul(n, n)
	middle := wide.Add(square, wide.Of(n))
	some := []api.Wide{square, wide.Add(square, wide.Of(1)), wide.Add(middle, wide.Of(-1)), middle, wide.Add(middle, wide.Of(1)), wide.Add(middle, wide.Of(n-1)), wide.Add(middle, wide.Of(n))}
	return slices.DeleteFunc(some, func(a api.Wide) bool {
		return wide.Cmp(a, square) < 0 || wide.Cmp(a, wide.Add(middle, wide.Of(n))) > 0
	})
}

func TestWhole(t *testing.T) { // P3.1
	for _, x := range []struct {
		a    api.Wide
		want int
	}{
		{w(0, 0), 0}, {w(0, 1), 1}, {w(0, 2), 1}, {w(0, 3), 1}, {w(0, 4), 2}, {w(0, 8), 2}, {w(0, 9), 3}, {w(0, 15), 3}, {w(0, 16), 4}, {w(0, 17), 4}, {w(0, 24), 4}, {w(0, 25), 5}, {w(0, 26), 5},
		{w(0, 1<<62-1), 1<<31 - 1}, {w(0, 1<<62), 1 << 31}, {w(0, 1<<63), 3037000499}, {w(0, math.MaxUint64), 1<<32 - 1}, {w(1, 0), 1 << 32}, {w(1, 1), 1 << 32}, {w(1, 1<<33), 1 << 32}, {w(1, 1<<33+1), 1<<32 + 1}, {w(2, 0), 6074000999},
		{w(1<<62-1, 0), most - 1}, {w(1<<62-1, 1), most}, {w(1<<62-1, 2), most}, {w(1<<62-1, 1<<63), most}, {w(1<<62-1, math.MaxUint64), most},
	} {
		if got, e := root.Whole(x.a); got != x.want || e != api.OK {
			t.Errorf("Whole of %v: %d, %v, not %d", x.a, got, e, x.want)
		}
	}
}

func TestWholeOfWhatIsNextToASquare(t *testing.T) { // P3.1
	for _, n := range roots() {
		for _, a := range around(n) {
			if got, e := root.Whole(a); got != n || e != api.OK {
				t.Errorf("Whole of %v: %d, %v, not %d", a, got, e, n)
			}
		}
		if n == 0 {
			continue
		}
		below := wide.Add(wide.Mul(n, n), wide.Of(-1))
		if got, e := root.Whole(below); got != n-1 || e != api.OK {
			t.Errorf("Whole of %v: %d, %v, not %d", below, got, e, n-1)
		}
	}
}

func TestWholeOfAny(t *testing.T) { // P3.1
	r := rand.New(rand.NewPCG(11, 12))
	for range 20000 {
		a := w(int(r.Uint64()>>2), r.Uint64())
		if by := r.IntN(127); by < 63 {
			a.Hi >>= by
		} else {
			a = w(0, a.Lo>>(by-63))
		}
		got, e := root.Whole(a)
		if want := new(big.Int).Sqrt(plain(a)); whole(got).Cmp(want) != 0 || e != api.OK {
			t.Errorf("Whole of %v: %d, %v, not %v", a, got, e, want)
		}
	}
}

func TestWholeRefused(t *testing.T) { // P3.1
	for _, a := range []api.Wide{
		wide.Of(-1), wide.Of(-2), wide.Of(-16), wide.Of(none), w(-1, 0), w(-1, 1), w(-1, 1<<63), w(-2, math.MaxUint64), w(-1<<62, 0), w(math.MinInt, 0), w(math.MinInt, 1), w(math.MinInt, math.MaxUint64),
		w(1<<62, 0), w(1<<62, 1), w(1<<62, math.MaxUint64), w(1<<62+1, 0), w(1<<62+1<<61, 5), w(math.MaxInt, 0), w(math.MaxInt, math.MaxUint64), wide.Mul(none, none),
	} {
		if got, e := root.Whole(a); got != 0 || e != api.ErrArg {
			t.Errorf("Whole of %v: %d, %v, not 0, %v", a, got, e, api.ErrArg)
		}
	}
}

func TestSqrt(t *testing.T) { // P3.2
	for _, x := range []struct{ a, want int }{
		{0, 0}, {1, 65536}, {2, 92682}, {3, 113512}, {4, 131072}, {one / 4, one / 2}, {one, one}, {2 * one, 6074001000}, {3 * one, 7439101574}, {4 * one, 2 * one}, {9 * one, 3 * one},
		{one - 2, one - 1}, {one - 1, one - 1}, {one + 1, one}, {one + 2, one + 1}, {one + 3, one + 1}, {one + 4, one + 2},
		{4*one - 3, 2*one - 1}, {4*one - 2, 2*one - 1}, {4*one - 1, 2 * one}, {4*one + 1, 2 * one}, {4*one + 2, 2 * one}, {4*one + 3, 2*one + 1},
		{1 << 62, 1 << 47}, {1<<62 - 1, 1 << 47}, {1<<62 + 1, 1 << 47}, {most, 199032864766430}, {most - 1, 199032864766430},
	} {
		if got, cut := root.Sqrt(x.a); got != x.want || cut {
			t.Errorf("Sqrt of %d: %d, %v, not %d", x.a, got, cut, x.want)
		}
	}
}

func TestSqrtOfAny(t *testing.T) { // P3.2
	for _, a := range append(roots(), numbers()...) {
		want := new(big.Int)
		if a >= 0 {
			want = nearest(new(big.Int).Mul(whole(a), whole(one)))
		}
		if got, cut := root.Sqrt(a); whole(got).Cmp(want) != 0 || cut != (a < 0) {
			t.Errorf("Sqrt of %d: %d, %v, not %v", a, got, cut, want)
		}
	}
}

func TestSqrtBelow(t *testing.T) { // P3.2
	for _, a := range []int{-1, -2, -4, -one, -4 * one, -1 << 62, -most + 1, -most, none} {
		if got, cut := root.Sqrt(a); got != 0 || !cut {
			t.Errorf("Sqrt of %d: %d, %v, not 0, cut", a, got, cut)
		}
	}
}

func TestHypot(t *testing.T) { // P3.3
	for _, x := range []struct {
		a, b, want int
		cut        bool
	}{
		{3 * one, -4 * one, 5 * one, false}, {-3 * one, -4 * one, 5 * one, false}, {5, 12, 13, false}, {0, 0, 0, false}, {0, 7, 7, false}, {-7, 0, 7, false},
		{1, 1, 1, false}, {2, 1, 2, false}, {2, 2, 3, false}, {3, 2, 4, false}, {4, 2, 4, false}, {6, 6, 8, false}, {8, 3, 9, false}, {one, one, 6074001000, false},
		{most, 0, most, false}, {0, -most, most, false}, {most, 1, most, false}, {most - 1, 1, most - 1, false}, {most - 1, 3037000499, most - 1, false}, {most - 1, 3037000500, most, false},
		{most, 3037000499, most, false}, {-3037000499, most, most, false}, {most, 3037000500, most, true}, {3037000500, -most, most, true}, {most, one - 1, most, true}, {most, one, most, true}, {most, one + 1, most, true},
		{1 << 62, 1 << 62, 6521908912666391106, false}, {6521908912666391105, 6521908912666391105, most - 1, false}, {6521908912666391106, -6521908912666391105, most, false}, {6521908912666391106, 6521908912666391106, most, true}, {6521908912666391107, 6521908912666391106, most, true}, {6521908912666391107, 6521908912666391107, most, true},
		{most, most, most, true}, {-most, most, most, true}, {-most, -most, most, true}, {most, most - 1, most, true},
		{none, 0, most, true}, {0, none, most, true}, {none, 1, most, true}, {none, 3037000500, most, true}, {none, none, most, true}, {most, none, most, true}, {none, -most, most, true},
	} {
		if got, cut := root.Hypot(x.a, x.b); got != x.want || cut != x.cut {
			t.Errorf("Hypot of %d, %d: %d, %v, not %d, %v", x.a, x.b, got, cut, x.want, x.cut)
		}
	}
}

func TestHypotOfAny(t *testing.T) { // P3.3
	for _, a := range numbers() {
		for _, b := range numbers() {
			x, noneA := taken(a)
			y, noneB := taken(b)
			sum := new(big.Int).Mul(whole(x), whole(x))
			sum.Add(sum, new(big.Int).Mul(whole(y), whole(y)))
			want, wantCut := nearest(sum), noneA || noneB
			if want.Cmp(whole(most)) > 0 {
				want, wantCut = whole(most), true
			}
			if got, cut := root.Hypot(a, b); whole(got).Cmp(want) != 0 || cut != wantCut {
				t.Errorf("Hypot of %d, %d: %d, %v, not %v, %v", a, b, got, cut, want, wantCut)
			}
		}
	}
}

// off is how far n's square is from a.
func off(n, a *big.Int) *big.Int {
	square := new(big.Int).Mul(n, n)
	return square.Sub(square, a).Abs(square)
}

// closest fails if the square of one less than got, or one more, is nearer to a.
func closest(t *testing.T, got int, a *big.Int) {
	t.Helper()
	for _, by := range []int64{-1, 1} {
		next := new(big.Int).Add(whole(got), big.NewInt(by))
		if off(whole(got), a).Cmp(off(next, a)) > 0 {
			t.Errorf("%d as the root of %v: %v is nearer", got, a, next)
		}
	}
}

func TestNoOtherSquareIsNearer(t *testing.T) { // P3.4
	for _, a := range append(roots(), numbers()...) {
		if got, cut := root.Sqrt(a); !cut {
			closest(t, got, new(big.Int).Mul(whole(a), whole(one)))
		}
	}
	for _, a := range numbers() {
		for _, b := range numbers() {
			if got, cut := root.Hypot(a, b); !cut {
				closest(t, got, new(big.Int).Add(new(big.Int).Mul(whole(a), whole(a)), new(big.Int).Mul(whole(b), whole(b))))
			}
		}
	}
}

func TestRootsRise(t *testing.T) { // P3.4
	some := append(roots(), numbers()...)
	slices.Sort(some)
	last := 0
	for _, a := range some {
		got, _ := root.Sqrt(a)
		if got < last {
			t.Errorf("Sqrt of %d: %d, less than of a lesser one: %d", a, got, last)
		}
		last = got
	}
	var wides []api.Wide
	for _, n := range roots() {
		wides = append(wides, around(n)...)
	}
	slices.SortFunc(wides, wide.Cmp)
	last = 0
	for _, a := range wides {
		got, _ := root.Whole(a)
		if got < last {
			t.Errorf("Whole of %v: %d, less than of a lesser one: %d", a, got, last)
		}
		last = got
	}
}

func TestRootOfASquare(t *testing.T) { // P3.4
	for _, a := range numbers() {
		x, isNone := taken(a)
		want := max(x, -x)
		if got, e := root.Whole(wide.Mul(x, x)); got != want || e != api.OK {
			t.Errorf("Whole of the square of %d: %d, %v", x, got, e)
		}
		for _, f := range []func(a int) (int, bool){
			func(a int) (int, bool) { return root.Hypot(a, 0) },
			func(a int) (int, bool) { return root.Hypot(0, a) },
		} {
			if got, cut := f(a); got != want || cut != isNone {
				t.Errorf("Hypot of %d and 0: %d, %v, not %d, %v", a, got, cut, want, isNone)
			}
		}
	}
	for _, n := range roots() {
		a := n >> 31 << 16 // its square is a whole number of parts
		for _, x := range []int{a, -a} {
			square, cut := fix.Mul(x, x)
			if cut {
				continue
			}
			if got, cut := root.Sqrt(square); got != a || cut {
				t.Errorf("Sqrt of the square of %d: %d, %v", x, got, cut)
			}
		}
	}
}

func TestHypotIsBetween(t *testing.T) { // P3.4
	for _, a := range numbers() {
		for _, b := range numbers() {
			x, _ := taken(a)
			y, _ := taken(b)
			x, y = max(x, -x), max(y, -y)
			sum, _ := fix.Add(x, y)
			if got, _ := root.Hypot(a, b); got < x || got < y || got > sum {
				t.Errorf("Hypot of %d, %d: %d, not from the greater one to the sum", a, b, got)
			}
		}
	}
}
