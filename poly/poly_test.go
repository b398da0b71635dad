package poly_test

import (
	"fmt"
	"math"
	"math/big"
	"math/rand/v2"
	"slices"
	"testing"

	"binnacle/api"
	"binnacle/fix"
	"binnacle/poly"
	"binnacle/unit"
)

// The limits as ints, since tests negate and add to them.
const (
	one  = api.One
	half = api.One / 2
	most = api.MaxFix
	none = math.MinInt
	dim  = api.MaxDim
	last = 24
)

// call is one of the functions that reckon, of a unit and what else it is handed. Of At and Flow the list is of what they answer, alone.
type call func(u *unit.Unit) ([]api.Mat, api.Errno)

func terms(a api.Mat, n int) call {
	return func(u *unit.Unit) ([]api.Mat, api.Errno) { return poly.Terms(u, a, n) }
}

func at(t int, p ...api.Mat) call {
	return func(u *unit.Unit) ([]api.Mat, api.Errno) { return alone(poly.At(u, p, t)) }
}

func flow(a api.Mat, t int) call {
	return func(u *unit.Unit) ([]api.Mat, api.Errno) { return alone(poly.Flow(u, a, t)) }
}

// alone is no list only where an error stands beside a matrix that is empty.
func alone(m api.Mat, err api.Errno) ([]api.Mat, api.Errno) {
	if err != api.OK && m.R == 0 && m.C == 0 && len(m.V) == 0 {
		return nil, err
	}
	return []api.Mat{m}, err
}

// of is the matrix of so many rows.
func of(rows int, l ...int) api.Mat { return api.Mat{R: rows, C: len(l) / rows, V: l} }

// whole is the matrix of so many rows of numbers times One.
func whole(rows int, l ...int) api.Mat {
	m := of(rows, l...)
	for k := range l {
		m.V[k] *= one
	}
	return m
}

// filled is a matrix that has the same number everywhere.
func filled(rows, columns, n int) api.Mat {
	return api.Mat{R: rows, C: columns, V: slices.Repeat([]int{n}, rows*columns)}
}

// eye has One on its diagonal, and 0 else.
func eye(n int) api.Mat {
	m := filled(n, n, 0)
	for i := range n {
		m.V[i*n+i] = one
	}
	return m
}

// shift has a number in each row that has a next one, right behind the diagonal, and 0 else.
func shift(n, x int) api.Mat {
	m := filled(n, n, 0)
	for i := range n - 1 {
		m.V[i*n+i+1] = x
	}
	return m
}

// raised is m with 0 in and below its diagonal, by hand.
func raised(m api.Mat) api.Mat {
	for i := range m.R {
		clear(m.V[i*m.C : i*m.C+i+1])
	}
	return m
}

// many is a list of so many matrices, each with numbers of its own.
func many(n int, m api.Mat) []api.Mat {
	l := make([]api.Mat, n)
	for k := range l {
		l[k] = api.Mat{R: m.R, C: m.C, V: slices.Clone(m.V)}
	}
	return l
}

// same tells whether two matrices are bit for bit the same.
func same(a, b api.Mat) bool { return a.R == b.R && a.C == b.C && slices.Equal(a.V, b.V) }

// entry is m's k-th entry of row i, by its place.
func entry(m api.Mat, i, k int) int { return m.V[i*m.C+k] }

// expect fails unless the call answers these matrices of a new unit, and leaves its flag so.
func expect(t *testing.T, name string, do call, cut bool, want ...api.Mat) {
	t.Helper()
	u := unit.New()
	l, err := do(u)
	if err != api.OK || !slices.EqualFunc(l, want, same) || u.Cut() != cut {
		t.Errorf("%s: %v, %d, cut %v, not %v, %v", name, l, int(err), u.Cut(), want, cut)
	}
}

// refused fails unless the call is refused so, without a matrix, and a unit is left as it was: neither its flag nor its count tells of it.
func refused(t *testing.T, name string, do call, want api.Errno) {
	t.Helper()
	for _, set := range []bool{false, true} {
		u := unit.New()
		u.Set(set)
		l, err := do(u)
		if err != want || len(l) != 0 {
			t.Errorf("%s: %v, %d, not %d", name, l, int(err), int(want))
		}
		if u.Cut() != set || u.Count() != 0 {
			t.Errorf("%s: it reckoned: cut %v, count %d", name, u.Cut(), u.Count())
		}
	}
}

// noMatrices are some that are none, most of whose numbers would be cut.
func noMatrices() []api.Mat {
	numbers := func(n int) []int { return slices.Repeat([]int{none}, n) }
	return []api.Mat{
		{}, {V: numbers(1)}, {R: 0, C: 1}, {R: 1, C: 0}, {R: 0, C: 2, V: numbers(2)}, {R: 2, C: 0, V: numbers(2)}, {R: 0, C: 0, V: []int{}},
		{R: 13, C: 13, V: numbers(169)}, {R: 13, C: 13, V: make([]int, 169)}, {R: 14, C: 14, V: numbers(196)}, {R: 12, C: 13, V: numbers(156)}, {R: 13, C: 12, V: numbers(156)}, {R: 13, C: 1, V: numbers(13)}, {R: 1, C: 13, V: numbers(13)},
		{R: -1, C: -1, V: numbers(1)}, {R: -2, C: -2, V: numbers(4)}, {R: -2, C: -2, V: make([]int, 4)}, {R: -1, C: -1}, {R: -12, C: -12, V: numbers(144)}, {R: -1, C: 1}, {R: 2, C: -2, V: numbers(4)},
		{R: 1, C: 1}, {R: 1, C: 1, V: numbers(2)}, {R: 1, C: 1, V: make([]int, 2)}, {R: 2, C: 2}, {R: 2, C: 2, V: numbers(3)}, {R: 2, C: 2, V: make([]int, 3)}, {R: 2, C: 2, V: numbers(5)}, {R: 2, C: 2, V: make([]int, 5)}, {R: 2, C: 2, V: numbers(6)}, {R: 12, C: 12, V: numbers(143)}, {R: 12, C: 12, V: numbers(145)},
		{R: 2, C: 2, V: make([]int, 4)[:3]}, {R: 2, C: 2, V: make([]int, 4)[:0]},
		{R: 1 << 32, C: 1 << 32}, {R: 1 << 62, C: 1 << 62}, {R: most, C: most, V: numbers(1)}, {R: none, C: none}, {R: none, C: none, V: numbers(4)}, {R: 1<<32 + 1, C: 1<<32 + 1, V: numbers(1)},
	}
}

// notTold are numbers of terms that are not from 0 to 24.
func notTold() []int {
	return []int{none, -most, -1 << 32, -25, -24, -2, -1, 25, 26, 50, 1 << 8, 1 << 32, 1<<32 + 1, 1 << 62, most - 1, most}
}

// shape tells of a matrix that may be none what is short of it.
func shape(m api.Mat) string { return fmt.Sprintf("(%d, %d, %d)", m.R, m.C, len(m.V)) }

// chance is a matrix of numbers that are below 2^bits, on both sides of 0.
func chance(r *rand.Rand, rows, columns, bits int) api.Mat {
	m := filled(rows, columns, 0)
	for k := range m.V {
		m.V[k] = int(r.Int64()>>(63-bits)) * (1 - 2*r.IntN(2))
	}
	return m
}

// picked is a matrix of the edges of ints and of fixed numbers, and some between.
func picked(r *rand.Rand, rows, columns int) api.Mat {
	some := []int{none, none + 1, -1 << 62, -3 * one, -one, -half, -3, -1, 0, 0, 0, 1, 2, 7, half, one - 1, one, one, 2 * one, 1 << 47, 1 << 48, 1 << 62, most - 1, most}
	m := chance(r, rows, columns, 50)
	for k := range m.V {
		if r.IntN(2) == 0 {
			m.V[k] = some[r.IntN(len(some))]
		}
	}
	return m
}

// drawn is either: such as is mostly not cut, or such as is mostly cut.
func drawn(r *rand.Rand, rows, columns int) api.Mat {
	if r.IntN(3) > 0 {
		return chance(r, rows, columns, 28+r.IntN(7))
	}
	return picked(r, rows, columns)
}

// little is a matrix of whole numbers from -most to most times One.
func little(r *rand.Rand, n, most int) api.Mat {
	m := filled(n, n, 0)
	for k := range m.V {
		m.V[k] = (r.IntN(2*most+1) - most) * one
	}
	return m
}

// book reckons by fix itself, and keeps in mind what was cut.
type book struct{ cut bool }

func (b *book) note(n int, cut bool) int {
	b.cut = b.cut || cut
	return n
}

// add and mul are of two numbers, from 0 and One on, as a unit's are.
func (b *book) add(x, y int) int { return b.note(fix.Add(b.note(fix.Add(0, x)), y)) }
func (b *book) mul(x, y int) int { return b.note(fix.Mul(b.note(fix.Mul(one, x)), y)) }

// product is of two square matrices: each entry from 0 on, pair by pair.
func (b *book) product(x, y api.Mat) api.Mat {
	made := filled(x.R, y.C, 0)
	for i := range x.R {
		for k := range y.C {
			sum := 0
			for j := range x.C {
				sum = b.note(fix.Add(sum, b.note(fix.Mul(entry(x, i, j), entry(y, j, k)))))
			}
			made.V[i*made.C+k] = sum
		}
	}
	return made
}

// terms are by the promise's words, place by place.
func (b *book) terms(a api.Mat, n int) []api.Mat {
	l := []api.Mat{eye(a.R)}
	for m := 1; m <= n; m++ {
		next := b.product(l[m-1], a)
		for k, x := range next.V {
			next.V[k] = b.note(fix.Div(x, b.note(fix.Whole(m))))
		}
		l = append(l, next)
	}
	return l
}

// at is by the promise's words, place by place: each place by itself, since none hangs on another.
func (b *book) at(t int, p ...api.Mat) api.Mat {
	made := filled(p[0].R, p[0].C, 0)
	for k := range made.V {
		x := p[len(p)-1].V[k]
		for m := len(p) - 2; m >= 0; m-- {
			x = b.add(b.mul(x, t), p[m].V[k])
		}
		made.V[k] = x
	}
	return made
}

func TestExamples(t *testing.T) {
	j := whole(3, 0, 1, 0, 0, 0, 1, 0, 0, 0)
	if !poly.Upper(j) || poly.Upper(eye(2)) {
		t.Error("Upper(J), Upper(Eye(2)):", poly.Upper(j), poly.Upper(eye(2)))
	}
	expect(t, "Terms(u, J, 3)", terms(j, 3), false, eye(3), j, of(3, 0, 0, half, 0, 0, 0, 0, 0, 0), filled(3, 3, 0))
	expect(t, "Flow(u, J, 4 One)", flow(j, 4*one), false, whole(3, 1, 4, 8, 0, 1, 4, 0, 0, 1))
	refused(t, "Flow(u, Eye(2), 1)", flow(eye(2), 1), api.ErrArg)
	refused(t, "Terms(u, J, 25)", terms(j, 25), api.ErrArg)
	refused(t, "At(u, none, 1)", at(1), api.ErrSize)
	if m, err := poly.Flow(nil, j, 1); err != api.ErrNil || m.R != 0 || m.C != 0 || len(m.V) != 0 {
		t.Error("Flow(none, J, 1):", m, err)
	}
}

func TestUpper(t *testing.T) { // P9.1
	for rows := 1; rows <= dim; rows++ {
		for columns := 1; columns <= dim; columns++ {
			if poly.Upper(filled(rows, columns, 0)) != (rows == columns) {
				t.Errorf("Upper of noughts, %d rows, %d columns: %v", rows, columns, rows != columns)
			}
		}
		for _, x := range []int{none, -most, -one, -1, 1, one, most} {
			if m := raised(filled(rows, rows, x)); !poly.Upper(m) {
				t.Errorf("Upper(%v): false", m)
			}
			for k := range rows * rows {
				for _, m := range []api.Mat{filled(rows, rows, 0), raised(filled(rows, rows, one))} {
					m.V[k] = x
					if poly.Upper(m) != (k%rows > k/rows) {
						t.Errorf("Upper(%v): %v", m, k%rows <= k/rows)
					}
				}
			}
		}
	}
	for _, m := range noMatrices() {
		if poly.Upper(m) {
			t.Errorf("Upper%s: true", shape(m))
		}
	}
	for _, m := range []api.Mat{{R: 1, C: 1, V: []int{0, 1}}, {R: 2, C: 2, V: []int{0, 1, 0, 0, 0}}, {R: 2, C: 2, V: []int{0, 1, 0}}, {R: 1, C: 2, V: []int{0, 1}}, {R: 2, C: 3, V: []int{0, 1, 2, 0, 0, 3}}, {R: 3, C: 2, V: []int{0, 1, 0, 0, 0, 0}}} {
		if poly.Upper(m) {
			t.Errorf("Upper(%v): true", m)
		}
	}
	if m := (api.Mat{R: 2, C: 2, V: []int{0, 1, 0, 0, 5, 6}[:4]}); !poly.Upper(m) {
		t.Error("Upper looks at the spare room")
	}
}

func TestNoUnit(t *testing.T) { // Rule 5: ahead of ErrSize and ErrArg, too
	good, flat := of(2, 0, none, 0, 0), of(2, 1, 2, 3, 4, 5, 6)
	calls := map[string]call{
		"Terms": terms(good, 2), "Terms up to 0": terms(good, 0), "Terms of a flat one": terms(flat, 2), "At": at(1, good, good), "At of one": at(1, good), "At of none": at(1), "At of unlike ones": at(1, good, flat), "At of too many": at(1, many(26, good)...),
		"Flow": flow(good, 1), "Flow for 0": flow(good, 0), "Flow of a flat one": flow(flat, 1), "Flow of what is not upper": flow(eye(2), 1), "Flow of one row": flow(of(1, 0), 1),
	}
	for _, n := range notTold() {
		calls[fmt.Sprint("Terms up to ", n)], calls[fmt.Sprint("Terms of a flat one up to ", n)] = terms(good, n), terms(flat, n)
	}
	for k, m := range noMatrices() {
		calls[fmt.Sprint("Terms of none ", k)], calls[fmt.Sprint("Flow of none ", k)] = terms(m, 1), flow(m, 1)
		calls[fmt.Sprint("At of one, none ", k)], calls[fmt.Sprint("At, none ", k)] = at(1, m), at(1, good, m)
	}
	for name, do := range calls {
		for _, u := range []*unit.Unit{nil, {}, new(unit.Unit)} {
			l, err := do(u)
			if err != api.ErrNil || len(l) != 0 {
				t.Errorf("%s: %v, %d", name, l, int(err))
			}
			if u != nil && (u.Cut() || u.Count() != 0) {
				t.Errorf("%s: it reckoned", name)
			}
		}
	}
}

func TestNoSquare(t *testing.T) { // P9.1, P9.3: ErrSize, ahead of ErrArg
	l := noMatrices()
	for rows := 1; rows <= dim; rows++ {
		for columns := 1; columns <= dim; columns++ {
			if rows != columns {
				l = append(l, filled(rows, columns, 0), filled(rows, columns, none))
			}
		}
	}
	for _, m := range l {
		for _, n := range append(notTold(), 0, 1, 2, last) {
			refused(t, fmt.Sprint("Terms", shape(m), n), terms(m, n), api.ErrSize)
		}
		for _, x := range []int{none, -1, 0, 1, one, most} {
			refused(t, fmt.Sprint("Flow", shape(m), x), flow(m, x), api.ErrSize)
		}
	}
}

func TestHowManyTerms(t *testing.T) { // P9.1
	for rows := 1; rows <= dim; rows++ {
		m := filled(rows, rows, none)
		for _, n := range notTold() {
			refused(t, fmt.Sprint("Terms", shape(m), n), terms(m, n), api.ErrArg)
		}
		expect(t, "Terms up to 0: nothing is reckoned", terms(m, 0), false, eye(rows))
		for n := range last + 1 {
			noughts := slices.Repeat([]api.Mat{filled(rows, rows, 0)}, n)
			expect(t, fmt.Sprint("Terms of noughts up to ", n), terms(filled(rows, rows, 0), n), false, append([]api.Mat{eye(rows)}, noughts...)...)
		}
	}
	u := unit.New()
	if poly.Terms(u, of(1, none), 0); u.Count() != 0 {
		t.Error("Terms up to 0 reckons:", u.Count())
	}
}

func TestTermsAtTheEdges(t *testing.T) { // P9.1
	factorials := []api.Mat{of(1, one)}
	for m, by := 1, 1; m <= 12; m++ {
		by *= m
		factorials = append(factorials, of(1, (2*one+by)/(2*by))) // to the nearest part: till the 12-th none is in the middle, nor off by what the ones ahead are off
	}
	expect(t, "One", terms(of(1, one), 12), false, factorials...)
	for _, x := range []struct {
		a   int
		cut bool
		l   []int
	}{
		{2 * one, false, []int{one, 2 * one, 2 * one, 5726623061, 2863311530}}, {-one, false, []int{one, -one, half, -715827883}}, {7, false, []int{one, 7, 0, 0}},
		{one + 1, false, []int{one, one + 1, half + 1}},                    // the product first, then what it is divided by
		{half + 1, false, []int{one, half + 1, one / 8, 89478485}},         // divided term by term: the third power by 6 were one part more
		{6*one + 3, false, []int{one, 6*one + 3, 18*one + 18}},             // nothing but the nearest part each
		{-one - 1, false, []int{one, -one - 1, half + 1, -715827883}},      // as of what is above 0
		{most, false, []int{one, most}}, {-most, false, []int{one, -most}}, // One is neutral
		{none, true, []int{one, -most}},
		{1 << 47, false, []int{one, 1 << 47, 1 << 61}}, {1 << 48, true, []int{one, 1 << 48, 1 << 62}}, // cut, and then made less
		{1 << 48, false, []int{one, 1 << 48}}, // the next one would be cut
		{most, true, []int{one, most, 1 << 62, 3074457345618258602, 2305843009213693952}}, {-most, true, []int{one, -most, 1 << 62, -3074457345618258602}},
		{none, true, []int{one, -most, 1 << 62, -3074457345618258602}},
	} {
		var want []api.Mat
		for _, n := range x.l {
			want = append(want, of(1, n))
		}
		expect(t, fmt.Sprintf("Terms(%d, %d)", x.a, len(x.l)-1), terms(of(1, x.a), len(x.l)-1), x.cut, want...)
	}
	a := of(2, 5, 0, half, half) // A by the third term would be less by one part below
	expect(t, "the term by A", terms(a, 3), false, eye(2), a, of(2, 0, 0, 536870913, 536870912), of(2, 0, 0, 89478486, 89478485))
	b := of(2, 0, none, 0, 0)
	expect(t, "-2^63 by 0", terms(b, 2), true, eye(2), of(2, 0, -most, 0, 0), filled(2, 2, 0))
	c := whole(2, 1, 1<<30, 1<<30, 0) // the first sum is One and 2^60 One
	expect(t, "one entry is cut", terms(c, 2), true, eye(2), c, of(2, 1<<62, 1<<61, 1<<61, 1<<62))
}

func TestNoPolynomial(t *testing.T) { // P9.2
	refused(t, "At of no list", at(1), api.ErrSize)
	refused(t, "At of an empty one", at(1, []api.Mat{}...), api.ErrSize)
	refused(t, "At of none of some", at(1, many(3, eye(2))[:0]...), api.ErrSize)
	for _, n := range []int{26, 27, 50, 1 << 8, 1<<8 + 1, 1 << 16} {
		refused(t, fmt.Sprint("At of ", n), at(1, slices.Repeat([]api.Mat{of(1, none)}, n)...), api.ErrSize)
	}
	for _, bad := range noMatrices() {
		refused(t, "At"+shape(bad), at(1, bad), api.ErrSize)
		refused(t, "At of many"+shape(bad), at(1, slices.Repeat([]api.Mat{bad}, last+1)...), api.ErrSize)
		for _, n := range []int{2, 3, last + 1} {
			for _, k := range []int{0, 1, n - 2, n - 1} {
				for _, good := range []api.Mat{of(2, none, 1, 2, 3), filled(max(1, min(bad.R, dim)), max(1, min(bad.C, dim)), none)} {
					p := many(n, good)
					p[k] = bad
					refused(t, fmt.Sprint("At of ", n, shape(bad), " at ", k), at(1, p...), api.ErrSize)
				}
			}
		}
	}
}

func TestUnlikeMatrices(t *testing.T) { // P9.2: all pairs of sizes, at the first, the last and a middle place
	for k := range dim * dim {
		a := filled(1+k/dim, 1+k%dim, none)
		for j := range dim * dim {
			if j == k {
				continue
			}
			b := filled(1+j/dim, 1+j%dim, none)
			for _, p := range [][]api.Mat{{a, b}, {a, a, b}, {a, b, a}, {b, a, a}} {
				refused(t, "At"+shape(a)+shape(b), at(1, p...), api.ErrSize)
			}
		}
		for _, n := range []int{1, 2, last, last + 1} {
			expect(t, "At of as many as may be", at(one, many(n, filled(1+k/dim, 1+k%dim, 7))...), false, filled(1+k/dim, 1+k%dim, 7*n))
		}
		if t.Failed() {
			t.FailNow()
		}
	}
}

func TestAtAtTheEdges(t *testing.T) { // P9.2
	for _, x := range []struct {
		p       []int
		t, want int
		cut     bool
	}{
		{[]int{5}, 7, 5, false}, {[]int{none}, none, none, false}, {[]int{most}, most, most, false}, // of one alone nothing is reckoned
		{[]int{3 * one, 2 * one, one}, 2 * one, 11 * one, false}, {[]int{one, 2 * one, 3 * one}, 2 * one, 17 * one, false}, {[]int{one, 2 * one, 3 * one}, -2 * one, 9 * one, false}, {[]int{one, 2 * one, 3 * one}, 0, one, false}, {[]int{one, 2 * one, 3 * one}, half, 2*one + 3*one/4, false},
		{[]int{0, 0, 1}, 3 * half, 3, false},                                                                                                                                    // 1 by the square of t were 2
		{[]int{0, 3}, half, 2, false}, {[]int{0, 1}, half, 0, false}, {[]int{1, 1}, half, 1, false}, {[]int{0, 0, 2}, half + 1, 1, false}, {[]int{0, 1, 3}, 3 * half, 8, false}, // halves to the even one, at each step: 4, 5, 8
		{[]int{0, most}, one, most, false}, {[]int{1, most}, one, most, true}, {[]int{-1, most}, one, most - 1, false}, {[]int{0, -most}, one, -most, false}, {[]int{-1, -most}, one, -most, true}, {[]int{0, most}, -one, -most, false}, {[]int{most, most}, -one, 0, false},
		{[]int{-one, most}, 2 * one, most - one, true}, {[]int{0, -most, most}, one, 0, false}, {[]int{-one, one, most}, one, most - one, true}, {[]int{one, -one, most}, one, most, false}, {[]int{0, 1 << 48}, 1 << 46, 1 << 62, false}, {[]int{0, 1 << 48}, 1 << 47, most, true}, {[]int{0, 0, 1 << 48}, -1 << 47, most, true}, {[]int{0, 0, 2 * one}, most, most, true},
		{[]int{none, 0}, 0, -most, true}, {[]int{0, none}, 0, 0, true}, {[]int{0, 0}, none, 0, true}, {[]int{0, one}, none, -most, true}, {[]int{0, none}, one, -most, true}, {[]int{0, none}, -one, most, true}, {[]int{none, most}, one, 0, true}, {[]int{0, none, 0}, one, -most, true}, {[]int{7, 0, none}, 0, 7, true},
		{[]int{1, 2, 3}, 0, 1, false}, {[]int{most, most, most}, 0, most, false},
	} {
		p, beside := []api.Mat{}, []api.Mat{}
		for _, n := range x.p {
			p, beside = append(p, of(1, n)), append(beside, of(3, 1, 0, n, 0, 0, 1))
		}
		expect(t, fmt.Sprintf("At(%d, %d)", x.p, x.t), at(x.t, p...), x.cut, of(1, x.want))
		var b book
		want := b.at(x.t, beside...)
		want.V[2] = x.want
		expect(t, fmt.Sprintf("At(%d, %d) beside others", x.p, x.t), at(x.t, beside...), x.cut || b.cut, want)
	}
	u := unit.New()
	if poly.At(u, []api.Mat{of(1, none)}, none); u.Count() != 0 {
		t.Error("At of one alone reckons:", u.Count())
	}
	expect(t, "two rows", at(2*one, whole(2, 1, 2, 3, 4), whole(2, 5, 6, 7, 8)), false, whole(2, 11, 14, 17, 20))
	expect(t, "a column", at(-half, whole(3, 1, 2, 3), whole(3, 0, 2, 4)), false, whole(3, 1, 1, 1))
	power := many(last+1, of(1, 0))
	power[last].V[0] = one
	expect(t, "the highest power", at(2*one, power...), false, of(1, one<<last))
	power[last].V[0] = one << 7
	expect(t, "the highest power, cut", at(2*one, power...), true, of(1, most))
}

func TestFlowOfWhatIsNotUpper(t *testing.T) { // P9.3
	for n := 1; n <= dim; n++ {
		for i := range n {
			for k := range i + 1 {
				for _, x := range []int{none, -one, -1, 1, one, most} {
					m, high := filled(n, n, 0), raised(filled(n, n, none))
					m.V[i*n+k], high.V[i*n+k] = x, x
					for _, s := range []int{0, 1, one, none} {
						refused(t, fmt.Sprint("Flow", m, s), flow(m, s), api.ErrArg)
						refused(t, fmt.Sprint("Flow", high, s), flow(high, s), api.ErrArg)
					}
				}
			}
		}
	}
}

func TestFlowAtTheEdges(t *testing.T) { // P9.3
	for _, s := range []int{none, -most, -one, -1, 0, 1, one, most} {
		u := unit.New()
		if m, err := poly.Flow(u, of(1, 0), s); err != api.OK || !same(m, of(1, one)) || u.Cut() || u.Count() != 0 {
			t.Errorf("Flow(0, %d): %v, %d, cut %v, count %d", s, m, int(err), u.Cut(), u.Count())
		}
		for n := 2; n <= dim; n++ {
			expect(t, fmt.Sprint("Flow of noughts for ", s), flow(filled(n, n, 0), s), s == none, eye(n))
		}
	}
	for _, x := range []struct {
		a, t, want int
		cut        bool
	}{
		{one, 2 * one, 2 * one, false}, {one, -2 * one, -2 * one, false}, {3, half, 2, false}, {1, half, 0, false}, {most, one, most, false}, {most, -one, -most, false}, {-most, one, -most, false}, {most, 2 * one, most, true}, {most, -2 * one, -most, true}, {most, 0, 0, false}, {one, most, most, false}, {one, -most, -most, false},
		{none, one, -most, true}, {none, -one, most, true}, {none, 0, 0, true}, {one, none, -most, true}, {0, none, 0, true}, {none, none, most, true},
	} {
		expect(t, fmt.Sprintf("Flow(%d, %d)", x.a, x.t), flow(of(2, 0, x.a, 0, 0), x.t), x.cut, of(2, one, x.want, 0, one))
	}
	expect(t, "a term that is cut, for 0", flow(shift(3, most), 0), true, eye(3))
	expect(t, "a term that is cut", flow(shift(3, most), 1), true, of(3, one, 1<<31, 0, 0, one, 1<<31, 0, 0, one))
	expect(t, "each product to the nearest part", flow(of(3, 0, one, 0, 0, 0, 2, 0, 0, 0), 3*half), false, of(3, one, 3*half, 3, 0, one, 3, 0, 0, one)) // half of 2, by t twice: 1, 2, 3
	expect(t, "a sum that is cut", flow(of(3, 0, one, most, 0, 0, one, 0, 0, 0), one), true, of(3, one, one, most, 0, one, one, 0, 0, one))
	expect(t, "a sum that is not", flow(of(3, 0, one, -most, 0, 0, one, 0, 0, 0), one), false, of(3, one, one, half-most, 0, one, one, 0, 0, one))
	expect(t, "four rows", flow(shift(4, one), 3*one), false, of(4, one, 3*one, 9*half, 9*half+9, 0, one, 3*one, 9*half, 0, 0, one, 3*one, 0, 0, 0, one)) // a third of One / 2 is a third of a part more, 27 times
	expect(t, "back by as much", flow(shift(3, one), -4*one), false, whole(3, 1, -4, 8, 0, 1, -4, 0, 0, 1))
}

func TestAsBelow(t *testing.T) { // P9.1 to P9.3: place by place by fix's own operations, cut or not
	r := rand.New(rand.NewPCG(61, 62))
	cuts := map[string]int{}
	for round := range 1200 {
		n, columns, s := 1+round%dim, 1+r.IntN(dim), drawn(r, 1, 1).V[0]
		a, p := drawn(r, n, n), []api.Mat{}
		for range 1 + r.IntN(last+1) {
			p = append(p, drawn(r, n, columns))
		}
		var b book
		l := b.terms(a, r.IntN(last+1))
		expect(t, "Terms", terms(a, len(l)-1), b.cut, l...)
		cuts[fmt.Sprint("Terms ", b.cut)]++
		b = book{}
		m := b.at(s, p...)
		expect(t, "At", at(s, p...), b.cut, m)
		cuts[fmt.Sprint("At ", b.cut)]++
		b = book{}
		m = b.at(s, b.terms(raised(a), n-1)...)
		expect(t, "Flow", flow(a, s), b.cut, m)
		cuts[fmt.Sprint("Flow ", b.cut)]++
		if t.Failed() {
			t.Fatal("of", a, p, s)
		}
	}
	for _, name := range []string{"Terms true", "Terms false", "At true", "At false", "Flow true", "Flow false"} {
		if cuts[name] < 120 {
			t.Error("too few are cut, or not cut:", cuts)
		}
	}
}

func TestFlagStays(t *testing.T) { // P9.1 to P9.3: what was cut ahead is kept in mind, and what is not cut clears nothing
	cuts := []call{terms(of(1, 1<<48), 2), at(one, of(1, 1), of(1, most)), flow(shift(2, most), 2*one)}
	fine := []call{terms(of(1, 1<<48), 1), at(one, of(1, 0), of(1, most)), flow(shift(2, most), one)}
	for k, cut := range cuts {
		u := unit.New()
		for i, do := range fine {
			if do(u); u.Cut() {
				t.Errorf("call %d: cut", i)
			}
		}
		if cut(u); !u.Cut() {
			t.Errorf("call %d: not cut", k)
		}
		for i, do := range fine {
			if do(u); !u.Cut() {
				t.Errorf("call %d: the flag is gone", i)
			}
		}
		u.Clear()
		if fine[k](u); u.Cut() {
			t.Errorf("call %d: a flag that was cleared is set by what is not cut", k)
		}
	}
}

// spoil writes over all that was answered, and its spare room.
func spoil(l []api.Mat) {
	for k, m := range l[:cap(l)] {
		v := m.V[:cap(m.V)]
		for i := range v {
			v[i] = 99
		}
		l[:cap(l)][k] = api.Mat{R: 98, C: 97}
	}
}

func TestWhatWasHandedInStays(t *testing.T) { // DOC.md's Rule 4, and its spare room
	room := []int{0, one, 0, 0, none, most, -7, 8, 9, 10}
	was := slices.Clone(room)
	a, b, c := of(2, room[:4]...), of(2, room[3:7]...), of(2, room[4:10]...)
	list := []api.Mat{a, b, a, b, c}
	heads := slices.Clone(list)
	for name, do := range map[string]call{
		"Terms": terms(a, 3), "Terms up to 0": terms(a, 0), "Terms up to 24": terms(b, last), "Terms of one row": terms(of(1, room[1:2]...), 2), "At": at(one, list[:4]...), "At of one": at(one, list[:1]...), "At of the same": at(one, a, a, a), "At of the second one": at(1, list[1:2]...), "At of a wide one": at(1, list[4:]...),
		"Flow": flow(a, 3*one), "Flow for 0": flow(a, 0), "Flow of one row": flow(of(1, room[:1]...), 5),
		"Terms of a flat one": terms(c, 1), "Terms of too many": terms(b, 25), "At of unlike ones": at(1, list...), "Flow of what is not upper": flow(b, 1), "Flow of a flat one": flow(c, 1),
		"Upper": func(*unit.Unit) ([]api.Mat, api.Errno) {
			poly.Upper(a)
			poly.Upper(b)
			return nil, api.OK
		},
	} {
		l, _ := do(unit.New())
		spoil(l)
		if !slices.Equal(room, was) || !slices.EqualFunc(list, heads, same) {
			t.Fatalf("%s: %d, %v", name, room, list)
		}
	}
}

func TestAnswersAreNew(t *testing.T) { // DOC.md's Rule 4: what is handed in is not looked at later, and no two answers, or lists of one, share anything
	a, p, q := whole(2, 0, 2, 0, 0), []api.Mat{whole(2, 1, 2, 3, 4), whole(2, 5, 6, 7, 8)}, []api.Mat{of(2, 1, 2, 3, none)}
	calls := []call{terms(a, 2), at(one, p...), at(one, q...), flow(a, 3*one)}
	wants := [][]api.Mat{{eye(2), whole(2, 0, 2, 0, 0), filled(2, 2, 0)}, {whole(2, 6, 8, 10, 12)}, {of(2, 1, 2, 3, none)}, {whole(2, 1, 6, 0, 1)}}
	u := unit.New()
	var firsts [][]api.Mat
	for _, do := range calls {
		first, _ := do(u)
		second, _ := do(u)
		spoil(second)
		firsts = append(firsts, first)
	}
	for _, m := range append(append([]api.Mat{a}, p...), q...) {
		for i := range m.V {
			m.V[i] = none
		}
	}
	for i, l := range firsts {
		if !slices.EqualFunc(l, wants[i], same) {
			t.Errorf("call %d: %v, not %v", i, l, wants[i])
		}
	}
	for _, b := range []api.Mat{eye(3), filled(3, 3, 0), shift(3, one)} {
		l, _ := poly.Terms(u, b, last)
		was := many(1, l[0])
		for k := range l[1:] {
			was = append(was, many(1, l[k+1])...)
		}
		for k, m := range l {
			for i := range m.V[:cap(m.V)] {
				m.V[:cap(m.V)][i] = none
			}
			if !slices.EqualFunc(l[k+1:], was[k+1:], same) {
				t.Errorf("term %d shares its numbers", k)
			}
		}
	}
}

func TestLastPowerIsNought(t *testing.T) { // P9.4: of a strictly upper one of n rows the n-th, and all behind it, even where others are cut
	r := rand.New(rand.NewPCG(63, 64))
	for round := range 300 {
		n := 1 + round%dim
		a := raised(picked(r, n, n))
		l, err := poly.Terms(unit.New(), a, last)
		if err != api.OK || len(l) != last+1 {
			t.Fatal(a, len(l), err)
		}
		for m := n; m <= last; m++ {
			if !same(l[m], filled(n, n, 0)) {
				t.Fatalf("term %d of %v: %v", m, a, l[m])
			}
		}
	}
	for n := 1; n <= dim; n++ { // and not the one ahead
		if l, _ := poly.Terms(unit.New(), shift(n, one), n-1); entry(l[n-1], 0, n-1) == 0 {
			t.Errorf("term %d of %d rows is nought", n-1, n)
		}
	}
}

func TestFlowForNothing(t *testing.T) { // P9.4: Eye, even where terms are cut
	r := rand.New(rand.NewPCG(65, 66))
	for round := range 500 {
		n := 1 + round%dim
		a := raised(picked(r, n, n))
		if m, err := poly.Flow(unit.New(), a, 0); err != api.OK || !same(m, eye(n)) {
			t.Fatalf("Flow(%v, 0): %v, %d", a, m, int(err))
		}
	}
}

// exponential is the whole one of a times t parts, by fractions: the power by n rows is nought.
func exponential(a api.Mat, t int) []*big.Rat {
	n := a.R
	part := func(x int) *big.Rat { return big.NewRat(int64(x), one) }
	term, sum := make([]*big.Rat, n*n), make([]*big.Rat, n*n)
	for k, x := range eye(n).V {
		term[k], sum[k] = part(x), part(x)
	}
	for m := 1; m < n; m++ {
		next := make([]*big.Rat, n*n)
		for k := range next {
			next[k] = new(big.Rat)
			for j := range n {
				next[k].Add(next[k], new(big.Rat).Mul(term[k/n*n+j], part(a.V[j*n+k%n])))
			}
			next[k].Mul(next[k], part(t)).Quo(next[k], big.NewRat(int64(m), 1))
			sum[k].Add(sum[k], next[k])
		}
		term = next
	}
	return sum
}

func TestFlowIsTheExponential(t *testing.T) { // P9.4: of whole numbers, bit for bit up to three rows, else but for what is rounded
	r := rand.New(rand.NewPCG(67, 68))
	for round := range 600 {
		n := 1 + round%dim
		a, s := raised(little(r, n, 1)), (r.IntN(5)-2)*one
		near := big.NewRat(1<<20, one) // all that is rounded, at the greatest, of 12 rows of One, for 2 One
		if n <= 3 {
			near = new(big.Rat)
			a, s = raised(little(r, n, 50)), (r.IntN(101)-50)*one
		}
		u := unit.New()
		m, err := poly.Flow(u, a, s)
		if err != api.OK || u.Cut() || len(m.V) != n*n {
			t.Fatalf("Flow(%v, %d): %v, %d, cut %v", a, s, m, int(err), u.Cut())
		}
		for k, x := range exponential(a, s) {
			off := x.Sub(x, big.NewRat(int64(m.V[k]), one))
			if off.Abs(off).Cmp(near) > 0 {
				t.Fatalf("Flow(%v, %d): at %d off by %s", a, s, k, off.FloatString(12))
			}
		}
	}
}

func TestFlowsOneBehindTheOther(t *testing.T) { // P9.4: at most three rows of small whole numbers, for small whole times
	r := rand.New(rand.NewPCG(69, 70))
	for round := range 2000 {
		n := 1 + round%3
		a, s, s2 := raised(little(r, n, 20)), (r.IntN(41)-20)*one, (r.IntN(41)-20)*one
		u := unit.New()
		first, _ := poly.Flow(u, a, s)
		second, _ := poly.Flow(u, a, s2)
		both, err := poly.Flow(u, a, s+s2)
		var b book
		if err != api.OK || u.Cut() || !same(b.product(second, first), both) || !same(b.product(first, second), both) || b.cut {
			t.Fatalf("Flow(%v) for %d and %d: %v, %v, not %v", a, s, s2, first, second, both)
		}
	}
}
