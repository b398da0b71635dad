package sym_test

import (
	"fmt"
	"math"
	"math/rand/v2"
	"slices"
	"testing"

	"binnacle/api"
	"binnacle/fix"
	"binnacle/sym"
	"binnacle/unit"
)

// The limits as ints, since tests negate and add to them.
const (
	one  = api.One
	most = api.MaxFix
	none = math.MinInt
	dim  = api.MaxDim
)

// call is one of the functions that reckon, of a unit and what else it is handed. Of Trace the matrix is what it answers, alone.
type call func(u *unit.Unit) (api.Mat, api.Errno)

func even(m api.Mat) call {
	return func(u *unit.Unit) (api.Mat, api.Errno) { return sym.Even(u, m) }
}

func sandwich(f, p api.Mat) call {
	return func(u *unit.Unit) (api.Mat, api.Errno) { return sym.Sandwich(u, f, p) }
}

func rank(p api.Mat, s int, k ...int) call {
	return func(u *unit.Unit) (api.Mat, api.Errno) { return sym.Rank(u, p, k, s) }
}

func trace(m api.Mat) call {
	return func(u *unit.Unit) (api.Mat, api.Errno) {
		n, err := sym.Trace(u, m)
		if err != api.OK && n == 0 {
			return api.Mat{}, err
		}
		return of(1, n), err
	}
}

// of is the matrix of so many rows.
func of(rows int, l ...int) api.Mat { return api.Mat{R: rows, C: len(l) / rows, V: l} }

// whole is the matrix of so many rows of numbers times One.
func whole(rows int, l ...int) api.Mat {
	m := of(rows, l...)
	for k := range l {
		m.V[k] *= one
	}
	return m
}

// filled is a matrix that has the same number everywhere.
func filled(rows, columns, n int) api.Mat {
	return api.Mat{R: rows, C: columns, V: slices.Repeat([]int{n}, rows*columns)}
}

// eye has One on its diagonal, and 0 else.
func eye(n int) api.Mat {
	m := filled(n, n, 0)
	for i := range n {
		m.V[i*n+i] = one
	}
	return m
}

// same tells whether two matrices are bit for bit the same.
func same(a, b api.Mat) bool { return a.R == b.R && a.C == b.C && slices.Equal(a.V, b.V) }

// entry is m's k-th entry of row i, by its place.
func entry(m api.Mat, i, k int) int { return m.V[i*m.C+k] }

// expect fails unless the call answers the matrix of a new unit, and leaves its flag so.
func expect(t *testing.T, name string, do call, want api.Mat, cut bool) {
	t.Helper()
	u := unit.New()
	m, err := do(u)
	if err != api.OK || !same(m, want) || u.Cut() != cut {
		t.Errorf("%s: %v, %d, cut %v, not %v, %v", name, m, int(err), u.Cut(), want, cut)
	}
}

// refused fails unless there is that error, and nothing beside it.
func refused(t *testing.T, name string, m api.Mat, err, want api.Errno) {
	t.Helper()
	if err != want || m.R != 0 || m.C != 0 || len(m.V) != 0 {
		t.Errorf("%s: %v, %d, not %d", name, m, int(err), int(want))
	}
}

// size fails unless the call is refused as ErrSize, and a unit is left as it was: neither its flag nor its count tells of it.
func size(t *testing.T, name string, do call) {
	t.Helper()
	for _, set := range []bool{false, true} {
		u := unit.New()
		u.Set(set)
		m, err := do(u)
		refused(t, name, m, err, api.ErrSize)
		if u.Cut() != set || u.Count() != 0 {
			t.Errorf("%s: it reckoned: cut %v, count %d", name, u.Cut(), u.Count())
		}
	}
}

// noMatrices are some that are none, all of whose numbers would be cut.
func noMatrices() []api.Mat {
	numbers := func(n int) []int { return slices.Repeat([]int{none}, n) }
	return []api.Mat{
		{}, {V: numbers(1)}, {R: 0, C: 1}, {R: 1, C: 0}, {R: 0, C: 2, V: numbers(2)}, {R: 2, C: 0, V: numbers(2)}, {R: 0, C: 0, V: []int{}},
		{R: 13, C: 13, V: numbers(169)}, {R: 14, C: 14, V: numbers(196)}, {R: 12, C: 13, V: numbers(156)}, {R: 13, C: 12, V: numbers(156)}, {R: 13, C: 1, V: numbers(13)}, {R: 1, C: 13, V: numbers(13)},
		{R: -1, C: -1, V: numbers(1)}, {R: -2, C: -2, V: numbers(4)}, {R: -1, C: -1}, {R: -12, C: -12, V: numbers(144)}, {R: -1, C: 1}, {R: 2, C: -2, V: numbers(4)},
		{R: 1, C: 1}, {R: 1, C: 1, V: numbers(2)}, {R: 2, C: 2}, {R: 2, C: 2, V: numbers(3)}, {R: 2, C: 2, V: numbers(5)}, {R: 2, C: 2, V: numbers(6)}, {R: 12, C: 12, V: numbers(143)}, {R: 12, C: 12, V: numbers(145)},
		{R: 2, C: 2, V: numbers(4)[:3]}, {R: 2, C: 2, V: numbers(4)[:0]},
		{R: 1 << 32, C: 1 << 32}, {R: 1 << 62, C: 1 << 62}, {R: most, C: most, V: numbers(1)}, {R: none, C: none}, {R: none, C: none, V: numbers(4)}, {R: 1<<32 + 1, C: 1<<32 + 1, V: numbers(1)},
	}
}

// shape tells of a matrix that may be none what is short of it.
func shape(m api.Mat) string { return fmt.Sprintf("(%d, %d, %d)", m.R, m.C, len(m.V)) }

// chance is a matrix of numbers that are below 2^bits, on both sides of 0.
func chance(r *rand.Rand, rows, columns, bits int) api.Mat {
	m := filled(rows, columns, 0)
	for k := range m.V {
		m.V[k] = int(r.Int64()>>(63-bits)) * (1 - 2*r.IntN(2))
	}
	return m
}

// picked is a matrix of the edges of ints and of fixed numbers, and some between.
func picked(r *rand.Rand, rows, columns int) api.Mat {
	some := []int{none, none + 1, -1 << 62, -3 * one, -one, -one / 2, -3, -1, 0, 0, 0, 1, 2, 7, one / 2, one - 1, one, one, 2 * one, 1 << 47, 1 << 48, 1 << 62, most - 1, most}
	m := chance(r, rows, columns, 50)
	for k := range m.V {
		if r.IntN(2) == 0 {
			m.V[k] = some[r.IntN(len(some))]
		}
	}
	return m
}

// drawn is either: such as is mostly not cut, or such as is mostly cut.
func drawn(r *rand.Rand, rows, columns int) api.Mat {
	if r.IntN(2) == 0 {
		return chance(r, rows, columns, 40)
	}
	return picked(r, rows, columns)
}

// mirror makes a square matrix symmetric by hand: what is above the diagonal stands below it, too.
func mirror(m api.Mat) api.Mat {
	for i := range m.R {
		for k := range i {
			m.V[i*m.C+k] = entry(m, k, i)
		}
	}
	return m
}

// book reckons by fix itself, and keeps in mind what was cut.
type book struct{ cut bool }

func (b *book) note(n int, cut bool) int {
	b.cut = b.cut || cut
	return n
}

// add and mul are of two numbers, from 0 and One on, as a unit's are.
func (b *book) add(x, y int) int { return b.note(fix.Add(b.note(fix.Add(0, x)), y)) }
func (b *book) mul(x, y int) int { return b.note(fix.Mul(b.note(fix.Mul(one, x)), y)) }

// product is of each row of m and each row of turned: from 0 on, pair by pair.
func (b *book) product(m, turned api.Mat) api.Mat {
	made := filled(m.R, turned.R, 0)
	for i := range m.R {
		for k := range turned.R {
			sum := 0
			for j := range m.C {
				sum = b.note(fix.Add(sum, b.note(fix.Mul(entry(m, i, j), entry(turned, k, j)))))
			}
			made.V[i*made.C+k] = sum
		}
	}
	return made
}

// turned is m with rows and columns exchanged.
func turned(m api.Mat) api.Mat {
	made := filled(m.C, m.R, 0)
	for i := range m.R {
		for k := range m.C {
			made.V[k*made.C+i] = entry(m, i, k)
		}
	}
	return made
}

// even is by the promise's words, place by place.
func (b *book) even(m api.Mat) api.Mat {
	made := filled(m.R, m.C, 0)
	for i := range m.R {
		made.V[i*m.C+i] = entry(m, i, i)
		for k := i + 1; k < m.C; k++ {
			made.V[i*m.C+k] = b.note(fix.Half(entry(m, i, k), entry(m, k, i)))
		}
	}
	return mirror(made)
}

// rank is by the promise's words, place by place.
func (b *book) rank(p api.Mat, s int, l ...int) api.Mat {
	made := filled(p.R, p.C, 0)
	for i := range p.R {
		for k := i; k < p.C; k++ {
			made.V[i*p.C+k] = b.add(entry(p, i, k), b.mul(s, b.mul(l[i], l[k])))
		}
	}
	return mirror(made)
}

func TestExamples(t *testing.T) {
	odd, made := of(2, 1, 2, 5, 4), of(2, 1, 4, 4, 4)
	expect(t, "Even(1 2; 5 4)", even(odd), made, false)
	if !sym.Is(made) || sym.Is(odd) {
		t.Error("Is(1 4; 4 4), Is(1 2; 5 4):", sym.Is(made), sym.Is(odd))
	}
	expect(t, "Sandwich", sandwich(whole(2, 1, 1, 0, 1), eye(2)), whole(2, 2, 1, 1, 1), false)
	ranked := of(2, one/2, one, one, 2*one)
	expect(t, "Rank(0 0; 0 0, One 2 One, One / 2)", rank(filled(2, 2, 0), one/2, one, 2*one), ranked, false)
	expect(t, "Trace(that)", trace(ranked), of(1, 5*one/2), false)
	size(t, "Even(1 2)", even(of(1, 1, 2)))
	size(t, "Rank(1, none, 1)", rank(of(1, 1), 1))
	m, err := sym.Even(nil, odd)
	refused(t, "Even of no unit", m, err, api.ErrNil)
}

func TestIs(t *testing.T) { // P8.1
	r := rand.New(rand.NewPCG(51, 52))
	for n := 1; n <= dim; n++ {
		m := mirror(picked(r, n, n))
		if !sym.Is(m) {
			t.Errorf("Is(%v): false", m)
		}
		if !sym.Is(filled(n, n, none)) || !sym.Is(filled(n, n, most)) || !sym.Is(filled(n, n, 0)) {
			t.Errorf("Is of %d rows of one number: false", n)
		}
		for place := range m.V { // one number that is another one, at each place
			was := m.V[place]
			for _, x := range []int{was + 1, was - 1, was ^ none, ^was} {
				m.V[place] = x
				if diagonal := place/n == place%n; sym.Is(m) != diagonal {
					t.Fatalf("Is(%v): %v", m, !diagonal)
				}
			}
			m.V[place] = was
		}
	}
}

func TestIsOfNone(t *testing.T) { // P8.1: what is no matrix, or not square, is not symmetric
	for _, m := range noMatrices() {
		if sym.Is(m) {
			t.Errorf("Is%s: true", shape(m))
		}
	}
	for rows := 1; rows <= dim; rows++ {
		for columns := 1; columns <= dim; columns++ {
			if m := filled(rows, columns, 7); sym.Is(m) != (rows == columns) {
				t.Errorf("Is%s: %v", shape(m), rows != columns)
			}
		}
	}
}

func TestNoUnit(t *testing.T) { // Rule 5: ahead of ErrSize, too
	good, wide := of(2, none, most, 1, 2), of(2, 1, 2, 3, 4, 5, 6)
	calls := map[string]call{
		"Even": even(good), "Sandwich": sandwich(good, good), "Rank": rank(good, none, most, most), "Trace": trace(good),
		"Even of a flat one": even(wide), "Sandwich by a flat one": sandwich(wide, good), "Sandwich of a flat one": sandwich(good, wide), "Rank of a flat one": rank(wide, 1, 2, 3), "Rank of none": rank(good, 1), "Trace of a flat one": trace(wide),
	}
	for k, m := range noMatrices() {
		calls[fmt.Sprint("Even of none ", k)], calls[fmt.Sprint("Trace of none ", k)] = even(m), trace(m)
		calls[fmt.Sprint("Sandwich by none ", k)], calls[fmt.Sprint("Sandwich of none ", k)] = sandwich(m, good), sandwich(good, m)
		calls[fmt.Sprint("Rank, none ", k)] = rank(m, 1, 2, 3)
	}
	for name, do := range calls {
		for _, u := range []*unit.Unit{nil, {}, new(unit.Unit)} {
			m, err := do(u)
			refused(t, name, m, err, api.ErrNil)
			if u != nil && (u.Cut() || u.Count() != 0) {
				t.Errorf("%s: it reckoned", name)
			}
		}
	}
}

func TestNoMatrix(t *testing.T) { // P8.1 to P8.3
	good := of(2, none, most, 1, 2)
	for _, m := range noMatrices() {
		for _, x := range []struct {
			name string
			do   call
		}{
			{"Even", even(m)}, {"Trace", trace(m)},
			{"Sandwich, the first", sandwich(m, good)}, {"Sandwich, the second", sandwich(good, m)}, {"Sandwich, both", sandwich(m, m)},
			{"Sandwich of as many rows as columns", sandwich(m, filled(max(1, min(m.C, dim)), max(1, min(m.C, dim)), none))},
			{"Rank", rank(m, none, most, most)}, {"Rank of none", rank(m, 1)}, {"Rank of its own", rank(m, 1, m.V...)}, {"Rank of as many as rows", rank(m, 1, make([]int, max(0, min(m.R, 20)))...)},
		} {
			size(t, x.name+shape(m), x.do)
		}
	}
}

func TestSizesThatDoNotFit(t *testing.T) { // P8.1 to P8.3: of all sizes, all that are not those told
	numbers := slices.Repeat([]int{none}, dim+3)
	for rows := 1; rows <= dim; rows++ {
		for columns := 1; columns <= dim; columns++ {
			m := filled(rows, columns, none)
			if rows != columns {
				size(t, "Even"+shape(m), even(m))
				size(t, "Trace"+shape(m), trace(m))
			}
			for n := range numbers {
				if rows != columns || n != rows {
					size(t, fmt.Sprint("Rank", shape(m), n), rank(m, 1, numbers[:n]...))
				}
			}
			for rows2 := 1; rows2 <= dim; rows2++ {
				for columns2 := 1; columns2 <= dim; columns2++ {
					p := filled(rows2, columns2, none)
					name := "Sandwich" + shape(m) + shape(p)
					if rows2 != columns2 || columns != rows2 {
						size(t, name, sandwich(m, p))
					} else if made, err := sym.Sandwich(unit.New(), m, p); err != api.OK || made.R != rows || made.C != rows || len(made.V) != rows*rows {
						t.Errorf("%s: %s, %d", name, shape(made), int(err))
					}
				}
			}
		}
	}
}

func TestEvenAtTheEdges(t *testing.T) { // P8.1: halves to the even one, and -2^63, which is none
	for _, x := range []struct {
		a, b, want int
		cut        bool
	}{
		{1, 2, 2, false}, {2, 3, 2, false}, {3, 4, 4, false}, {-1, -2, -2, false}, {-2, -3, -2, false}, {0, 1, 0, false}, {0, -1, 0, false}, {1, -2, 0, false}, {1, 3, 2, false},
		{most, most, most, false}, {most, most - 1, most - 1, false}, {most - 1, most - 2, most - 1, false}, {-most, -most, -most, false}, {most, -most, 0, false}, {most, 0, 1 << 62, false}, {-most, 0, -1 << 62, false},
		{none, none, -most, true}, {none, most, 0, true}, {none, -most, -most, true}, {none, 0, -1 << 62, true},
	} {
		for _, diagonal := range []int{0, 7, most, -most, none} {
			want := of(2, diagonal, x.want, x.want, diagonal)
			expect(t, fmt.Sprintf("Even(%d; %d)", x.a, x.b), even(of(2, diagonal, x.a, x.b, diagonal)), want, x.cut)
			expect(t, fmt.Sprintf("Even(%d; %d)", x.b, x.a), even(of(2, diagonal, x.b, x.a, diagonal)), want, x.cut)
		}
	}
	for _, x := range []int{none, -most, -1, 0, 1, most} {
		expect(t, fmt.Sprintf("Even(%d)", x), even(of(1, x)), of(1, x), false)
	}
	expect(t, "Even of three rows", even(of(3, 1, 2, 3, 4, 5, 6, 7, 8, 9)), of(3, 1, 3, 5, 3, 5, 7, 5, 7, 9), false)
	expect(t, "one pair of three is cut", even(of(3, none, 2, 3, 4, none, none, 7, 8, none)), of(3, none, 3, 5, 3, none, -1<<62+4, 5, -1<<62+4, none), true)
}

func TestSandwich(t *testing.T) { // P8.2
	expect(t, "one row", sandwich(of(1, one, -one), eye(2)), of(1, 2*one), false)
	expect(t, "one column", sandwich(whole(3, 1, 2, -3), of(1, one/2)), of(3, one/2, one, -3*one/2, one, 2*one, -3*one, -3*one/2, -3*one, 9*one/2), false)
	expect(t, "one number", sandwich(of(1, -one), of(1, most)), of(1, most), false)
	expect(t, "less rows than columns", sandwich(whole(2, 1, 0, 2, 0, 1, 0), whole(3, 1, 2, 3, 2, 4, 5, 3, 5, 6)), whole(2, 37, 12, 12, 4), false)
	expect(t, "of what is not symmetric", sandwich(eye(2), of(2, 1, 2, 5, 4)), of(2, 1, 4, 4, 4), false)
	expect(t, "each product to the nearest part", sandwich(of(1, 3*one/2), of(1, 1)), of(1, 3), false)
	expect(t, "f by p is first", sandwich(of(1, 3*one/2, one/2), of(2, 0, 1, 0, 0)), of(1, 1), false)
	expect(t, "f is not on the right alone", sandwich(whole(2, 1, 2, 3, 4), whole(2, 1, 0, 0, 0)), whole(2, 1, 3, 3, 9), false)
	expect(t, "-2^63", sandwich(of(1, one), of(1, none)), of(1, -most), true)
	expect(t, "-2^63 by 0", sandwich(of(1, 0), of(1, none)), of(1, 0), true)
	expect(t, "by -2^63", sandwich(of(1, none), of(1, 0)), of(1, 0), true)
	expect(t, "a product that is cut, and then less", sandwich(of(1, 2*one), of(1, most)), of(1, most), true)
	expect(t, "where both places are cut unlike", sandwich(of(2, 2*one, 0, one/2, 0), of(2, most, 0, 0, 0)), of(2, most, 3<<61, 3<<61, 1<<61), true)
	expect(t, "-MaxFix", sandwich(of(1, -one), of(1, -most)), of(1, -most), false)
	expect(t, "a sum that is cut, and then less", sandwich(of(1, one, one, one), of(3, most, 0, 0, one, 0, 0, -one, 0, 0)), of(1, most-one), true)
	expect(t, "the same in another order", sandwich(of(1, one, one, one), of(3, -one, 0, 0, most, 0, 0, one, 0, 0)), of(1, most), false)
}

func TestRankAtTheEdges(t *testing.T) { // P8.3
	for _, x := range []struct {
		p, k, s, want int
		cut           bool
	}{
		{0, one, one, one, false}, {5, 2 * one, one / 2, 5 + 2*one, false}, {5, -2 * one, -one / 2, 5 - 2*one, false}, {7, 0, most, 7, false}, {7, one, 0, 7, false}, {most, most, 0, most, true}, {-most, one, most, 0, false},
		{most, 0, 0, most, false}, {most, one, 1, most, true}, {most - 1, one, 1, most, false}, {-most, one, -1, -most, true}, {1 - most, one, -1, -most, false}, {most, one, -most, 0, false},
		{none, 0, 0, -most, true}, {0, none, 0, 0, true}, {0, 0, none, 0, true}, {0, one, none, -most, true}, {0, none, one, most, true}, {0, none, -one, -most, true}, {none, one, one, one - most, true},
		{0, 1 << 16, one / 2, 0, false}, {0, 3 << 16, one / 2, 4, false}, {0, 1 << 16, 3 * one / 2, 2, false}, {0, 1 << 15, most, 0, false}, // each product to the nearest part, s behind both
		{0, 1 << 48, 1, 1 << 31, true}, // the square of k is cut ahead of s
	} {
		name := fmt.Sprintf("Rank(%d, %d, %d)", x.p, x.k, x.s)
		expect(t, name, rank(of(1, x.p), x.s, x.k), of(1, x.want), x.cut)
		p, want := whole(3, 1, 2, 3, 2, 4, 5, 3, 5, 6), whole(3, 1, 2, 3, 2, 4, 5, 3, 5, 6)
		for i := range 3 {
			k := make([]int, 3)
			at, was := i*3+i, p.V[i*3+i]
			p.V[at], want.V[at], k[i] = x.p, x.want, x.k
			expect(t, fmt.Sprint(name, " at ", i), rank(p, x.s, k...), want, x.cut)
			p.V[at], want.V[at] = was, was
		}
	}
}

func TestRank(t *testing.T) { // P8.3
	expect(t, "three rows", rank(whole(3, 1, 2, 3, 2, 4, 5, 3, 5, 6), 2*one, one, -one, 3*one), whole(3, 3, 0, 9, 0, 6, -1, 9, -1, 24), false)
	expect(t, "of what is not symmetric: the number above", rank(of(2, 1, 2, 5, 4), 0, one, one), of(2, 1, 2, 2, 4), false)
	expect(t, "-2^63 below is not looked at", rank(of(2, 1, 2, none, 4), one, 0, 0), of(2, 1, 2, 2, 4), false)
	expect(t, "-2^63 above is", rank(of(2, 1, none, 2, 4), one, 0, 0), of(2, 1, -most, -most, 4), true)
	expect(t, "great squares", rank(filled(2, 2, 0), one, 1<<47, 1<<46), of(2, 1<<62, 1<<61, 1<<61, 1<<60), false)
	expect(t, "one sum beside the diagonal is cut", rank(of(2, 1, most, most, 4), one, one, one), of(2, 1+one, most, most, 4+one), true)
	expect(t, "both products first, then s", rank(filled(2, 2, 0), one<<20, 1, 1), filled(2, 2, 0), false)
	expect(t, "a product that is cut, and then less", rank(of(1, -most), one, 1<<48), of(1, 0), true)
	expect(t, "a product that is cut, and then made less by s", rank(filled(1, 1, 0), one/2, 1<<48), of(1, 1<<62), true)
}

func TestTrace(t *testing.T) { // P8.3
	for _, x := range []struct {
		diagonal []int
		want     int
		cut      bool
	}{
		{[]int{0}, 0, false}, {[]int{7}, 7, false}, {[]int{most}, most, false}, {[]int{-most}, -most, false}, {[]int{none}, -most, true},
		{[]int{most, 1}, most, true}, {[]int{most, -1}, most - 1, false}, {[]int{-most, -1}, -most, true}, {[]int{most, -most}, 0, false}, {[]int{none, most}, 0, true}, {[]int{most, none}, 0, true},
		{[]int{most, one, -one}, most - one, true}, {[]int{-one, most, one}, most, false}, {[]int{one, -one, most}, most, false}, {[]int{-most, -one, one}, one - most, true},
		{[]int{1, 2, 3, 4, 5, 6, 7, 8, 9, 10, 11, 12}, 78, false}, {[]int{1, 2, 3, 4, 5, 6, 7, 8, 9, 10, 11, none}, 66 - most, true},
	} {
		n := len(x.diagonal)
		for _, beside := range []int{0, 1, most, none} { // what is beside the diagonal is not looked at
			m := filled(n, n, beside)
			for i, d := range x.diagonal {
				m.V[i*n+i] = d
			}
			expect(t, fmt.Sprint("Trace of ", x.diagonal), trace(m), of(1, x.want), x.cut)
		}
	}
}

func TestAsBelow(t *testing.T) { // P8.1 to P8.3: place by place by fix's own operations, cut or not
	r := rand.New(rand.NewPCG(53, 54))
	cuts := [2]int{}
	for round := range 6000 {
		n, rows := 1+round%dim, 1+r.IntN(dim)
		p, f, k := drawn(r, n, n), drawn(r, rows, n), drawn(r, 1, n).V
		s := drawn(r, 1, 1).V[0]
		var b book
		want := b.even(p)
		expect(t, "Even", even(p), want, b.cut)
		b = book{}
		want = b.even(b.product(b.product(f, turned(p)), f))
		expect(t, "Sandwich", sandwich(f, p), want, b.cut)
		b = book{}
		want = b.rank(p, s, k...)
		expect(t, "Rank", rank(p, s, k...), want, b.cut)
		if b.cut {
			cuts[1]++
		} else {
			cuts[0]++
		}
		b = book{}
		sum := 0
		for i := range n {
			sum = b.note(fix.Add(sum, entry(p, i, i)))
		}
		expect(t, "Trace", trace(p), of(1, sum), b.cut)
		if t.Failed() {
			t.Fatal("of", f, p, k, s)
		}
	}
	if min(cuts[0], cuts[1]) < 500 {
		t.Error("too few are cut, or not cut:", cuts)
	}
}

func TestFlagStays(t *testing.T) { // P8.1 to P8.3: what was cut ahead is kept in mind, and what is not cut clears nothing
	small, great, odd := of(2, 1, 2, 2, 4), of(2, most, 0, 0, most), of(2, 1, none, 2, 4)
	cuts := []call{even(odd), sandwich(whole(2, 1, 1, 0, 1), great), rank(great, one, one, one), trace(great)}
	fine := []call{even(great), sandwich(eye(2), great), rank(great, -one, one, one), trace(small)}
	for k, cut := range cuts {
		u := unit.New()
		for i, do := range fine {
			if do(u); u.Cut() {
				t.Errorf("call %d: cut", i)
			}
		}
		if cut(u); !u.Cut() {
			t.Errorf("call %d: not cut", k)
		}
		for i, do := range fine {
			if do(u); !u.Cut() {
				t.Errorf("call %d: the flag is gone", i)
			}
		}
		u.Clear()
		if fine[k](u); u.Cut() {
			t.Errorf("call %d: a flag that was cleared is set by what is not cut", k)
		}
	}
}

func TestWhatWasHandedInStays(t *testing.T) { // DOC.md's Rule 4, and its spare room
	room := []int{one, -one, none, most, 7, 8, 9, 10}
	was := slices.Clone(room)
	a, b := of(2, room[:4]...), of(2, room[1:5]...)
	odd := api.Mat{R: 2, C: 2, V: room[:3]}
	for name, do := range map[string]call{
		"Even": even(a), "Even of one number": even(of(1, room[:1]...)), "Sandwich": sandwich(a, b), "Sandwich of one": sandwich(a, a), "Sandwich by a row": sandwich(of(1, room[:2]...), b), "Sandwich of one number": sandwich(of(1, one), of(1, room[:1]...)),
		"Rank": rank(a, one, room[1:3]...), "Rank by 0": rank(b, 0, room[:2]...), "Rank of one number": rank(of(1, room[:1]...), 1, room[:1]...), "Trace": trace(a),
		"Even of none": even(odd), "Sandwich of none": sandwich(a, odd), "Rank of too many": rank(a, 1, room[:3]...), "Trace of none": trace(odd),
		"Is": func(*unit.Unit) (api.Mat, api.Errno) {
			sym.Is(a)
			return api.Mat{}, api.OK
		},
	} {
		m, _ := do(unit.New())
		l := m.V[:cap(m.V)]
		for k := range l {
			l[k] = 99
		}
		if !slices.Equal(room, was) {
			t.Fatalf("%s: %d", name, room)
		}
	}
}

func TestAnswersAreNew(t *testing.T) { // DOC.md's Rule 4: what is handed in is not looked at later, and no two answers share anything
	p, f, k := of(2, 1, 2, 5, 4), eye(2), []int{one, one}
	calls := []call{even(p), sandwich(f, p), rank(p, 3, k...)}
	wants := []api.Mat{of(2, 1, 4, 4, 4), of(2, 1, 4, 4, 4), of(2, 4, 5, 5, 7)}
	u := unit.New()
	var firsts, seconds []api.Mat
	for _, do := range calls {
		first, _ := do(u)
		second, _ := do(u)
		firsts, seconds = append(firsts, first), append(seconds, second)
	}
	for _, l := range [][]int{p.V, f.V, k, seconds[0].V, seconds[1].V, seconds[2].V} {
		for i := range l {
			l[i] = none
		}
	}
	for i, m := range firsts {
		if !same(m, wants[i]) {
			t.Errorf("call %d: %v, not %v", i, m, wants[i])
		}
	}
}

func TestAnswersAreSymmetric(t *testing.T) { // P8.4: where something is cut, too
	r := rand.New(rand.NewPCG(55, 56))
	for round := range 3000 {
		n, rows := 1+round%dim, 1+r.IntN(dim)
		p, f, k := picked(r, n, n), picked(r, rows, n), picked(r, 1, n).V
		for i, do := range []call{even(p), sandwich(f, p), rank(p, picked(r, 1, 1).V[0], k...)} {
			if m, err := do(unit.New()); err != api.OK || !sym.Is(m) || !same(m, turned(m)) {
				t.Fatalf("call %d of %v, %v, %d: %v, %d", i, p, f, k, m, int(err))
			}
		}
	}
}

func TestSymmetricOnesStay(t *testing.T) { // P8.4: of all fixed numbers, the greatest ones among them
	r := rand.New(rand.NewPCG(57, 58))
	for round := range 3000 {
		n := 1 + round%dim
		p := mirror(picked(r, n, n))
		for k, x := range p.V {
			p.V[k] = max(x, -most)
		}
		expect(t, "Even", even(p), p, false)
		expect(t, "Sandwich by One", sandwich(eye(n), p), p, false)
		if t.Failed() {
			t.Fatal("of", p)
		}
	}
}

func TestRankTakesAway(t *testing.T) { // P8.4: what s added, -s takes away, as long as nothing is cut
	r := rand.New(rand.NewPCG(59, 60))
	done := 0
	for round := range 4000 {
		n := 1 + round%dim
		p, k, s := mirror(drawn(r, n, n)), chance(r, 1, n, 20+r.IntN(26)).V, chance(r, 1, 1, 1+r.IntN(40)).V[0]
		u := unit.New()
		more, _ := sym.Rank(u, p, k, s)
		less, err := sym.Rank(u, more, k, -s)
		if u.Cut() {
			continue
		}
		done++
		if err != api.OK || !same(less, p) {
			t.Fatalf("Rank(%v, %d, %d) taken away: %v, not %v", p, k, s, less, p)
		}
	}
	if done < 1000 {
		t.Error("too few are not cut:", done)
	}
}
