package mat_test

import (
	"fmt"
	"math"
	"math/rand/v2"
	"slices"
	"testing"

	"binnacle/api"
	"binnacle/fix"
	"binnacle/mat"
	"binnacle/unit"
)

// The limits as ints, since tests negate and add to them.
const (
	one  = api.One
	most = api.MaxFix
	none = math.MinInt
	dim  = api.MaxDim
)

// call is one of the functions that reckon, of a unit and what else it is handed. Of Apply the matrix is what it answers as one column.
type call func(u *unit.Unit) (api.Mat, api.Errno)

func sum(a, b api.Mat) call {
	return func(u *unit.Unit) (api.Mat, api.Errno) { return mat.Sum(u, a, b) }
}

func less(a, b api.Mat) call {
	return func(u *unit.Unit) (api.Mat, api.Errno) { return mat.Less(u, a, b) }
}

func scale(m api.Mat, s int) call {
	return func(u *unit.Unit) (api.Mat, api.Errno) { return mat.Scale(u, m, s) }
}

func mul(a, b api.Mat) call {
	return func(u *unit.Unit) (api.Mat, api.Errno) { return mat.Mul(u, a, b) }
}

func apply(m api.Mat, x ...int) call {
	return func(u *unit.Unit) (api.Mat, api.Errno) {
		l, err := mat.Apply(u, m, x)
		if err != api.OK && len(l) == 0 {
			return api.Mat{}, err
		}
		return column(l...), err
	}
}

// of is the matrix of so many rows.
func of(rows int, l ...int) api.Mat { return api.Mat{R: rows, C: len(l) / rows, V: l} }

// column is a matrix of one column.
func column(l ...int) api.Mat { return api.Mat{R: len(l), C: 1, V: l} }

// whole is the matrix of so many rows of numbers times One.
func whole(rows int, l ...int) api.Mat {
	m := of(rows, l...)
	for k := range l {
		m.V[k] *= one
	}
	return m
}

// same tells whether two matrices are bit for bit the same.
func same(a, b api.Mat) bool { return a.R == b.R && a.C == b.C && slices.Equal(a.V, b.V) }

// expect fails unless the call answers the matrix of a new unit, and leaves its flag so.
func expect(t *testing.T, name string, do call, want api.Mat, cut bool) {
	t.Helper()
	u := unit.New()
	m, err := do(u)
	if err != api.OK || !same(m, want) || u.Cut() != cut {
		t.Errorf("%s: %v, %d, cut %v, not %v, %v", name, m, int(err), u.Cut(), want, cut)
	}
}

// plain fails unless a matrix that no unit reckoned is the one wanted.
func plain(t *testing.T, name string, m api.Mat, err api.Errno, want api.Mat) {
	t.Helper()
	if err != api.OK || !same(m, want) {
		t.Errorf("%s: %v, %d, not %v", name, m, int(err), want)
	}
}

// refused fails unless there is that error, and no matrix beside it.
func refused(t *testing.T, name string, m api.Mat, err, want api.Errno) {
	t.Helper()
	if err != want || m.R != 0 || m.C != 0 || len(m.V) != 0 {
		t.Errorf("%s: %v, %d, not %d", name, m, int(err), int(want))
	}
}

// size fails unless the call is refused as ErrSize, and a unit is left as it was: neither its flag nor its count tells of it.
func size(t *testing.T, name string, do call) {
	t.Helper()
	for _, set := range []bool{false, true} {
		u := unit.New()
		u.Set(set)
		m, err := do(u)
		refused(t, name, m, err, api.ErrSize)
		if u.Cut() != set || u.Count() != 0 {
			t.Errorf("%s: it reckoned: cut %v, count %d", name, u.Cut(), u.Count())
		}
	}
}

// noMatrices are some that are none, all of whose numbers would be cut.
func noMatrices() []api.Mat {
	numbers := func(n int) []int { return slices.Repeat([]int{none}, n) }
	return []api.Mat{
		{}, {V: numbers(1)}, {R: 0, C: 1}, {R: 1, C: 0}, {R: 0, C: 2, V: numbers(2)}, {R: 2, C: 0, V: numbers(2)}, {R: 0, C: 0, V: []int{}},
		{R: 13, C: 1, V: numbers(13)}, {R: 1, C: 13, V: numbers(13)}, {R: 13, C: 13, V: numbers(169)}, {R: 12, C: 13, V: numbers(156)}, {R: 13, C: 12, V: numbers(156)},
		{R: -1, C: -1, V: numbers(1)}, {R: -2, C: -2, V: numbers(4)}, {R: -1, C: 1}, {R: 1, C: -1}, {R: -1, C: 0}, {R: -12, C: -12, V: numbers(144)},
		{R: 2, C: 2, V: numbers(3)}, {R: 2, C: 2, V: numbers(5)}, {R: 2, C: 2}, {R: 1, C: 1}, {R: 1, C: 1, V: numbers(2)}, {R: 12, C: 12, V: numbers(143)}, {R: 12, C: 12, V: numbers(145)}, {R: 2, C: 3, V: numbers(5)},
		{R: 2, C: 2, V: numbers(4)[:3]}, {R: 2, C: 2, V: numbers(4)[:0]},
		{R: 1 << 32, C: 1 << 32}, {R: 1 << 62, C: 4}, {R: 1<<62 + 1, C: 4, V: numbers(4)}, {R: most, C: most, V: numbers(1)}, {R: none, C: 2}, {R: none, C: none}, {R: none, C: 1}, {R: 1, C: most}, {R: most, C: 1, V: numbers(1)}, {R: none, C: none, V: numbers(4)},
	}
}

// chance is a matrix of numbers that are below 2^bits, on both sides of 0.
func chance(r *rand.Rand, rows, columns, bits int) api.Mat {
	m := api.Mat{R: rows, C: columns, V: make([]int, rows*columns)}
	for k := range m.V {
		m.V[k] = int(r.Uint64()) >> (63 - bits + r.IntN(bits))
	}
	return m
}

// picked is a matrix of the edges of ints and of fixed numbers, and some between.
func picked(r *rand.Rand, rows, columns int) api.Mat {
	some := []int{none, none + 1, -1 << 62, -3 * one, -one, -one / 2, -3, -1, 0, 0, 0, 1, 2, 7, one / 2, one - 1, one, one, 2 * one, 1 << 47, 1 << 48, 1 << 62, most - 1, most}
	m := chance(r, rows, columns, 50)
	for k := range m.V {
		if r.IntN(2) == 0 {
			m.V[k] = some[r.IntN(len(some))]
		}
	}
	return m
}

// sizes are two numbers of rows or columns each, all pairs of them.
func sizes(yield func(rows, columns int) bool) {
	for k := range dim * dim {
		if !yield(1+k/dim, 1+k%dim) {
			return
		}
	}
}

// entry is m's k-th entry of row i, by its place.
func entry(m api.Mat, i, k int) int { return m.V[i*m.C+k] }

// by is a matrix of entries that fix reckons, row by row, and whether any of them was cut.
func by(rows, columns int, f func(i, k int) (int, bool)) (api.Mat, bool) {
	m, any := api.Mat{R: rows, C: columns}, false
	for i := range rows {
		for k := range columns {
			n, cut := f(i, k)
			m.V, any = append(m.V, n), any || cut
		}
	}
	return m, any
}

// two is what f makes of a and b, from start on, as a unit's Add and Mul do.
func two(start int, f func(a, b int) (int, bool), a, b int) (int, bool) {
	n, first := f(start, a)
	n, second := f(n, b)
	return n, first || second
}

// product is the product by fix: from 0 on, pair by pair.
func product(a, b api.Mat) (api.Mat, bool) {
	return by(a.R, b.C, func(i, k int) (int, bool) {
		sum, any := 0, false
		for j := range a.C {
			part, first := fix.Mul(entry(a, i, j), entry(b, j, k))
			next, second := fix.Add(sum, part)
			sum, any = next, any || first || second
		}
		return sum, any
	})
}

func TestExamples(t *testing.T) {
	a, b := whole(2, 1, 2, 3, 4), whole(2, 0, 1, 1, 0)
	expect(t, "Mul(u, A, B)", mul(a, b), whole(2, 2, 1, 4, 3), false)
	m, err := mat.Turn(a)
	plain(t, "Turn(A)", m, err, whole(2, 1, 3, 2, 4))
	expect(t, "Apply(u, A, 1 1)", apply(a, one, one), column(3*one, 7*one), false)
	expect(t, "Sum(u, A, B)", sum(a, b), whole(2, 1, 3, 4, 4), false)
	m, err = mat.Eye(2)
	plain(t, "Eye(2)", m, err, of(2, one, 0, 0, one))
	m, err = mat.Diag([]int{5, 6})
	plain(t, "Diag(5 6)", m, err, of(2, 5, 0, 0, 6))
	if l, err := mat.Row(a, 1); err != api.OK || !slices.Equal(l, []int{3 * one, 4 * one}) {
		t.Error("Row(A, 1):", l, err)
	}
	expect(t, "Scale(u, A, One / 2)", scale(a, one/2), of(2, one/2, one, 3*one/2, 2*one), false)
	m, err = mat.Eye(0)
	refused(t, "Eye(0)", m, err, api.ErrSize)
	if err := mat.Check(api.Mat{R: 2, C: 2, V: []int{1, 2, 3}}); err != api.ErrSize {
		t.Error("Check(2 rows, 2 columns, 3 numbers):", err)
	}
	if l, err := mat.Row(a, 2); err != api.ErrSize || len(l) != 0 {
		t.Error("Row(A, 2):", l, err)
	}
	three, _ := mat.Eye(3)
	size(t, "Mul(u, A, Eye(3))", mul(a, three))
	m, err = mat.Mul(nil, a, a)
	refused(t, "Mul(none, A, A)", m, err, api.ErrNil)
}

func TestCheck(t *testing.T) { // P7.1
	for rows := -2; rows <= dim+2; rows++ {
		for columns := -2; columns <= dim+2; columns++ {
			for _, off := range []int{-rows * columns, -columns, -1, 0, 1, columns} {
				if rows*columns+off < 0 {
					continue
				}
				want := api.ErrSize
				if rows >= 1 && rows <= dim && columns >= 1 && columns <= dim && off == 0 {
					want = api.OK
				}
				m := api.Mat{R: rows, C: columns, V: make([]int, rows*columns+off)}
				if err := mat.Check(m); err != want {
					t.Fatalf("Check(%d rows, %d columns, %d numbers): %d, not %d", rows, columns, len(m.V), int(err), int(want))
				}
			}
		}
	}
	for _, m := range noMatrices() {
		if err := mat.Check(m); err != api.ErrSize {
			t.Errorf("Check(%d rows, %d columns, %d numbers): %d", m.R, m.C, len(m.V), int(err))
		}
	}
	for _, m := range []api.Mat{of(1, 0), of(1, none), of(2, none, most, -most, 7), {R: 2, C: 1, V: make([]int, 2, 9)}} {
		if err := mat.Check(m); err != api.OK {
			t.Errorf("Check(%v): %d", m, int(err))
		}
	}
}

func TestEye(t *testing.T) { // P7.1
	for n := 1; n <= dim; n++ {
		want, _ := by(n, n, func(i, k int) (int, bool) {
			if i == k {
				return one, false
			}
			return 0, false
		})
		m, err := mat.Eye(n)
		plain(t, "Eye", m, err, want)
	}
	m, err := mat.Eye(1)
	plain(t, "Eye(1)", m, err, of(1, one))
	for _, n := range []int{none, -1 << 32, -12, -1, 0, 13, 14, 144, 1 << 32, 1<<32 + 1, 1 << 62, most} {
		m, err := mat.Eye(n)
		refused(t, fmt.Sprintf("Eye(%d)", n), m, err, api.ErrSize)
	}
}

func TestDiag(t *testing.T) { // P7.1
	l := []int{none, most, -most, 0, 1, -1, one, 7, 8, 9, 10, 11, 12}
	for n := 1; n <= dim; n++ {
		want, _ := by(n, n, func(i, k int) (int, bool) {
			if i == k {
				return l[i], false
			}
			return 0, false
		})
		m, err := mat.Diag(l[:n])
		plain(t, "Diag", m, err, want)
	}
	for _, l := range [][]int{nil, {}, l[:0], l, make([]int, 14), make([]int, 144)} {
		m, err := mat.Diag(l)
		refused(t, fmt.Sprintf("Diag of %d", len(l)), m, err, api.ErrSize)
	}
}

func TestTurn(t *testing.T) { // P7.1
	m, err := mat.Turn(of(2, 1, 2, 3, 4, 5, 6))
	plain(t, "Turn(1 2 3, 4 5 6)", m, err, of(3, 1, 4, 2, 5, 3, 6))
	m, err = mat.Turn(of(1, none, most, -most))
	plain(t, "Turn of a row", m, err, column(none, most, -most))
	r := rand.New(rand.NewPCG(31, 32))
	for rows, columns := range sizes {
		a := picked(r, rows, columns)
		want, _ := by(columns, rows, func(i, k int) (int, bool) { return entry(a, k, i), false })
		m, err := mat.Turn(a)
		plain(t, "Turn", m, err, want)
		m, err = mat.Turn(m)
		plain(t, "Turn twice", m, err, a)
	}
	for _, a := range noMatrices() {
		m, err := mat.Turn(a)
		refused(t, "Turn", m, err, api.ErrSize)
	}
}

func TestRow(t *testing.T) { // P7.1
	r := rand.New(rand.NewPCG(33, 34))
	for rows, columns := range sizes {
		a := picked(r, rows, columns)
		for i := range rows {
			if l, err := mat.Row(a, i); err != api.OK || !slices.Equal(l, a.V[i*columns:(i+1)*columns]) {
				t.Fatalf("Row(%v, %d): %d, %d", a, i, l, int(err))
			}
		}
		for _, i := range []int{none, -1 << 32, -rows, -1, rows, rows + 1, dim + 1, 1 << 32, 1 << 62, most} {
			if l, err := mat.Row(a, i); err != api.ErrSize || len(l) != 0 {
				t.Fatalf("Row(%v, %d): %d, %d", a, i, l, int(err))
			}
		}
	}
	for _, a := range noMatrices() {
		for _, i := range []int{-1, 0, 1, a.R - 1, none, most} {
			if l, err := mat.Row(a, i); err != api.ErrSize || len(l) != 0 {
				t.Errorf("Row(%d rows, %d columns, %d numbers; %d): %d, %d", a.R, a.C, len(a.V), i, l, int(err))
			}
		}
	}
}

func TestNoUnit(t *testing.T) { // Rule 5: ahead of ErrSize, too
	good, wide := of(2, none, most, 1, 2), of(2, 1, 2, 3, 4, 5, 6)
	calls := map[string]call{
		"Sum": sum(good, good), "Less": less(good, good), "Scale": scale(good, none), "Mul": mul(good, wide), "Apply": apply(good, most, most),
		"Sum of unlike ones": sum(good, wide), "Less of unlike ones": less(wide, good), "Mul of unlike ones": mul(wide, good), "Apply of too few": apply(good, 1), "Apply of none": apply(good),
	}
	for k, m := range noMatrices() {
		calls[fmt.Sprint("Sum of none ", k)], calls[fmt.Sprint("Less of none ", k)] = sum(m, good), less(good, m)
		calls[fmt.Sprint("Scale of none ", k)], calls[fmt.Sprint("Mul of none ", k)] = scale(m, 1), mul(m, m)
		calls[fmt.Sprint("Apply, none ", k)] = apply(m, 1, 2)
	}
	for name, do := range calls {
		for _, u := range []*unit.Unit{nil, {}, new(unit.Unit)} {
			m, err := do(u)
			refused(t, name, m, err, api.ErrNil)
			if u != nil && (u.Cut() || u.Count() != 0) {
				t.Errorf("%s: it reckoned", name)
			}
		}
	}
}

func TestNoMatrix(t *testing.T) { // P7.2, P7.3
	good := of(2, none, most, 1, 2)
	for k, m := range noMatrices() {
		for _, x := range []struct {
			name string
			do   call
		}{
			{"Sum, the first", sum(m, good)}, {"Sum, the second", sum(good, m)}, {"Sum, both", sum(m, m)},
			{"Less, the first", less(m, good)}, {"Less, the second", less(good, m)}, {"Less, both", less(m, m)},
			{"Scale", scale(m, none)}, {"Scale by 0", scale(m, 0)},
			{"Mul, the first", mul(m, good)}, {"Mul, the second", mul(good, m)}, {"Mul, both", mul(m, m)},
			{"Apply", apply(m, 1, 2)}, {"Apply of none", apply(m)}, {"Apply of as many as it has", apply(m, m.V...)}, {"Apply of as many as columns", apply(m, make([]int, max(0, min(m.C, 20)))...)},
		} {
			size(t, fmt.Sprint(x.name, " ", k), x.do)
		}
	}
}

func TestSizesThatDoNotFit(t *testing.T) { // P7.2, P7.3
	r := rand.New(rand.NewPCG(35, 36))
	for rows, columns := range sizes {
		a := chance(r, rows, columns, 40)
		for rows2, columns2 := range sizes {
			b := chance(r, rows2, columns2, 40)
			if like := rows == rows2 && columns == columns2; like {
				expect(t, "Scale of like ones", scale(a, one), a, false)
			} else {
				size(t, "Sum", sum(a, b))
				size(t, "Less", less(a, b))
			}
			if columns != rows2 {
				size(t, "Mul", mul(a, b))
			} else if m, err := mat.Mul(unit.New(), a, b); err != api.OK || m.R != rows || m.C != columns2 || len(m.V) != rows*columns2 {
				t.Errorf("Mul(%d, %d; %d, %d): %d, %d, %d", rows, columns, rows2, columns2, m.R, m.C, int(err))
			}
		}
		for n := range dim + 3 {
			x := make([]int, n)
			if n != columns {
				size(t, "Apply", apply(a, x...))
			} else if l, err := mat.Apply(unit.New(), a, x); err != api.OK || len(l) != rows {
				t.Errorf("Apply(%d, %d): %d, %d", rows, columns, len(l), int(err))
			}
		}
		if t.Failed() {
			t.FailNow()
		}
	}
}

func TestSumAtTheEdges(t *testing.T) { // P7.2
	for _, x := range []struct {
		a, b, want int
		cut        bool
	}{
		{most, 0, most, false}, {most, 1, most, true}, {most, -most, 0, false}, {most, most, most, true}, {most - one, one, most, false}, {most - one, one + 1, most, true},
		{-most, 0, -most, false}, {-most, -1, -most, true}, {-most, -most, -most, true}, {1 - most, -1, -most, false},
		{none, 0, -most, true}, {0, none, -most, true}, {none, most, 0, true}, {none, none, -most, true}, {none, one, one - most, true},
	} {
		expect(t, fmt.Sprintf("Sum(%d; %d)", x.a, x.b), sum(of(1, x.a), of(1, x.b)), of(1, x.want), x.cut)
		for place := range 4 {
			a, b, want := of(2, 1, 2, 3, 4), of(2, 5, 5, 5, 5), of(2, 6, 7, 8, 9)
			a.V[place], b.V[place], want.V[place] = x.a, x.b, x.want
			expect(t, fmt.Sprintf("Sum(%d; %d) at %d", x.a, x.b, place), sum(a, b), want, x.cut)
		}
	}
}

func TestLessAtTheEdges(t *testing.T) { // P7.2
	for _, x := range []struct {
		a, b, want int
		cut        bool
	}{
		{most, 0, most, false}, {most, -1, most, true}, {most, most, 0, false}, {most, -most, most, true}, {0, most, -most, false}, {-1, most, -most, true},
		{-most, 0, -most, false}, {-most, 1, -most, true}, {-most, most, -most, true}, {-most, -most, 0, false}, {0, -most, most, false}, {1, -most, most, true},
		{none, 0, -most, true}, {0, none, most, true}, {none, none, 0, true}, {none, -most, 0, true}, {-one, none, most - one, true},
	} {
		expect(t, fmt.Sprintf("Less(%d; %d)", x.a, x.b), less(of(1, x.a), of(1, x.b)), of(1, x.want), x.cut)
		for place := range 4 {
			a, b, want := of(2, 1, 2, 3, 4), of(2, 5, 5, 5, 5), of(2, -4, -3, -2, -1)
			a.V[place], b.V[place], want.V[place] = x.a, x.b, x.want
			expect(t, fmt.Sprintf("Less(%d; %d) at %d", x.a, x.b, place), less(a, b), want, x.cut)
		}
	}
}

func TestScaleAtTheEdges(t *testing.T) { // P7.2: from One on, as unit's Mul
	for _, x := range []struct {
		a, s, want int
		cut        bool
	}{
		{most, one, most, false}, {one, most, most, false}, {most, -one, -most, false}, {-most, -one, most, false}, {most, one + 1, most, true}, {most, -one - 1, -most, true},
		{most, 0, 0, false}, {0, most, 0, false}, {most, one / 2, 1 << 62, false}, {most, most, most, true}, {-most, most, -most, true}, {-most, -most, most, true},
		{none, one, -most, true}, {one, none, -most, true}, {none, 0, 0, true}, {0, none, 0, true}, {none, none, most, true},
		{3, one / 2, 2, false}, {1, one / 2, 0, false}, {-3, one / 2, -2, false}, {5, one / 2, 2, false},
	} {
		expect(t, fmt.Sprintf("Scale(%d; %d)", x.a, x.s), scale(of(1, x.a), x.s), of(1, x.want), x.cut)
	}
	expect(t, "Scale of many", scale(of(2, 1, most, -one, 0, 3, one), 2*one), of(2, 2, most, -2*one, 0, 6, 2*one), true)
}

func TestEntriesAsBelow(t *testing.T) { // P7.2: each entry by fix's own operations
	r := rand.New(rand.NewPCG(37, 38))
	for range 12 {
		for rows, columns := range sizes {
			a, b, s := picked(r, rows, columns), picked(r, rows, columns), picked(r, 1, 1).V[0]
			want, cut := by(rows, columns, func(i, k int) (int, bool) { return two(0, fix.Add, entry(a, i, k), entry(b, i, k)) })
			expect(t, "Sum", sum(a, b), want, cut)
			want, cut = by(rows, columns, func(i, k int) (int, bool) { return fix.Sub(entry(a, i, k), entry(b, i, k)) })
			expect(t, "Less", less(a, b), want, cut)
			want, cut = by(rows, columns, func(i, k int) (int, bool) { return two(one, fix.Mul, entry(a, i, k), s) })
			expect(t, "Scale", scale(a, s), want, cut)
			if t.Failed() {
				t.Fatal("of", a, b, s)
			}
		}
	}
}

func TestMul(t *testing.T) { // P7.3
	expect(t, "of unlike sizes", mul(whole(2, 1, 2, 3, 4, 5, 6), whole(3, 1, 0, 0, 1, 1, 1)), whole(2, 4, 5, 10, 11), false)
	expect(t, "a row by a column", mul(whole(1, 1, 2, 3), whole(3, 4, 5, 6)), whole(1, 32), false)
	expect(t, "a column by a row", mul(whole(2, 1, 2), whole(1, 3, 4)), whole(2, 3, 4, 6, 8), false)
	expect(t, "one number", mul(of(1, most), of(1, one)), of(1, most), false)
	expect(t, "-MaxFix", mul(of(1, -most), of(1, one)), of(1, -most), false)
	expect(t, "MaxFix and -MaxFix", mul(of(1, most), of(1, -most)), of(1, -most), true)
	expect(t, "-2^63", mul(of(1, none), of(1, one)), of(1, -most), true)
	expect(t, "-2^63 by 0", mul(of(1, 0), of(1, none)), of(1, 0), true)
	expect(t, "each product to the nearest part, and then the sum", mul(of(1, 1, 1), of(2, one/2, one/2)), of(1, 0), false)
	expect(t, "a sum that is cut, and then less", mul(of(1, one, one, one), of(3, most, one, -one)), of(1, most-one), true)
	expect(t, "the same in another order", mul(of(1, one, one, one), of(3, -one, most, one)), of(1, most), false)
	expect(t, "a product that is cut, and then less", mul(of(1, 2*one, one), of(2, most, -one)), of(1, most-one), true)
	expect(t, "one entry of four is cut", mul(of(2, one, 0, 0, one), of(2, 1, 2, 3, none)), of(2, 1, 2, 3, -most), true)
}

func TestApply(t *testing.T) { // P7.3
	expect(t, "of unlike sizes", apply(whole(2, 1, 2, 3, 4, 5, 6), one, -one, 2*one), column(5*one, 11*one), false)
	expect(t, "one row", apply(of(1, most, one), one, 0), column(most), false)
	expect(t, "one column", apply(whole(3, 1, 2, 3), one/2), column(one/2, one, 3*one/2), false)
	expect(t, "-2^63 in the matrix", apply(of(2, 1, none, 2, 3), one, one), column(1-most, 5), true)
	expect(t, "-2^63 in the list", apply(of(2, 0, one, one, 0), none, 7), column(7, -most), true)
	expect(t, "each product to the nearest part, and then the sum", apply(of(1, 1, 1), one/2, one/2), column(0), false)
	expect(t, "a sum that is cut, and then less", apply(of(2, one, one, one, one, 0, 0), most, one, -one), column(most-one, most), true)
	expect(t, "a product that is cut", apply(of(2, one, -2*one), -most), column(-most, most), true)
}

func TestProductsAsBelow(t *testing.T) { // P7.3: each entry by fix's own operations, pair by pair
	r := rand.New(rand.NewPCG(39, 40))
	for rows, inner := range sizes {
		for columns := 1; columns <= dim; columns++ {
			a, b := picked(r, rows, inner), picked(r, inner, columns)
			if r.IntN(2) == 0 {
				a, b = chance(r, rows, inner, 44), chance(r, inner, columns, 44)
			}
			want, cut := product(a, b)
			expect(t, "Mul", mul(a, b), want, cut)
			first, _ := by(inner, 1, func(i, _ int) (int, bool) { return entry(b, i, 0), false })
			want, cut = product(a, first)
			expect(t, "Apply", apply(a, first.V...), want, cut)
			if t.Failed() {
				t.Fatal("of", a, b)
			}
		}
	}
}

func TestFlagStays(t *testing.T) { // P7.2, P7.3: what was cut ahead is kept in mind, and what is not cut clears nothing
	small, great := of(2, 1, 2, 3, 4), of(2, 1, 2, 3, most)
	cuts := []call{sum(great, small), less(small, of(2, 1, 2, 3, none)), scale(great, 2*one), mul(great, great), apply(great, 0, 2*one)}
	fine := []call{sum(small, small), less(great, great), scale(great, one), mul(small, small), apply(great, one, 0)}
	for k, cut := range cuts {
		u := unit.New()
		for i, do := range fine {
			if do(u); u.Cut() {
				t.Errorf("call %d: cut", i)
			}
		}
		if cut(u); !u.Cut() {
			t.Errorf("call %d: not cut", k)
		}
		for i, do := range fine {
			if do(u); !u.Cut() {
				t.Errorf("call %d: the flag is gone", i)
			}
		}
		u.Clear()
		if fine[k](u); u.Cut() {
			t.Errorf("call %d: a flag that was cleared is set by what is not cut", k)
		}
	}
}

func TestWhatWasHandedInStays(t *testing.T) { // DOC.md's Rule 4, and its spare room
	room := []int{one, -one, none, most, 7, 8, 9, 10}
	was := slices.Clone(room)
	a, b := of(2, room[:4]...), of(2, room[1:5]...)
	odd := api.Mat{R: 2, C: 2, V: room[:3]}
	free := func(f func() (api.Mat, api.Errno)) call {
		return func(*unit.Unit) (api.Mat, api.Errno) { return f() }
	}
	for name, do := range map[string]call{
		"Sum": sum(a, b), "Sum of one": sum(a, a), "Less": less(a, b), "Less of one": less(b, b), "Scale": scale(a, one), "Mul": mul(a, b), "Mul of one": mul(a, a), "Mul by one": mul(a, of(2, one, 0, 0, one)),
		"Apply": apply(a, room[1:3]...), "Sum of none": sum(a, odd), "Scale of none": scale(odd, 1),
		"Diag": free(func() (api.Mat, api.Errno) { return mat.Diag(room[:3]) }), "Diag of one": free(func() (api.Mat, api.Errno) { return mat.Diag(room[:1]) }),
		"Turn": free(func() (api.Mat, api.Errno) { return mat.Turn(a) }), "Turn of a row": free(func() (api.Mat, api.Errno) { return mat.Turn(of(1, room[:4]...)) }), "Turn of one number": free(func() (api.Mat, api.Errno) { return mat.Turn(of(1, room[0])) }),
		"Row": free(func() (api.Mat, api.Errno) {
			l, err := mat.Row(a, 0)
			return column(l...), err
		}),
		"Row of one": free(func() (api.Mat, api.Errno) {
			l, err := mat.Row(of(1, room[:4]...), 0)
			return column(l...), err
		}),
		"Check": free(func() (api.Mat, api.Errno) { return api.Mat{}, mat.Check(a) }),
	} {
		m, _ := do(unit.New())
		l := m.V[:cap(m.V)]
		for k := range l {
			l[k] = 99
		}
		if !slices.Equal(room, was) {
			t.Fatalf("%s: %d", name, room)
		}
	}
}

func TestAnswersAreNew(t *testing.T) { // DOC.md's Rule 4: what is handed in is not looked at later, and no two answers share anything
	u := unit.New()
	a := whole(2, 1, 2, 3, 4)
	eye, _ := mat.Eye(2)
	diag, _ := mat.Diag(a.V[:2])
	turned, _ := mat.Turn(a)
	row, _ := mat.Row(a, 0)
	scaled, _ := mat.Scale(u, a, one)
	applied, _ := mat.Apply(u, eye, a.V[:2])
	for k := range a.V {
		a.V[k] = none
	}
	for k := range eye.V {
		eye.V[k] = none
	}
	plain(t, "Diag", diag, api.OK, whole(2, 1, 0, 0, 2))
	plain(t, "Turn", turned, api.OK, whole(2, 1, 3, 2, 4))
	plain(t, "Row", column(row...), api.OK, whole(2, 1, 2))
	plain(t, "Scale", scaled, api.OK, whole(2, 1, 2, 3, 4))
	plain(t, "Apply", column(applied...), api.OK, whole(2, 1, 2))
	again, err := mat.Eye(2)
	plain(t, "Eye", again, err, whole(2, 1, 0, 0, 1))
}

func TestAProductTurned(t *testing.T) { // P7.4: bit for bit, where something is cut, too
	r := rand.New(rand.NewPCG(41, 42))
	for range 4000 {
		rows, inner, columns := 1+r.IntN(dim), 1+r.IntN(dim), 1+r.IntN(dim)
		a, b := picked(r, rows, inner), picked(r, inner, columns)
		u, v := unit.New(), unit.New()
		ab, _ := mat.Mul(u, a, b)
		want, _ := mat.Turn(ab)
		aTurned, _ := mat.Turn(a)
		bTurned, _ := mat.Turn(b)
		got, err := mat.Mul(v, bTurned, aTurned)
		if err != api.OK || !same(got, want) || u.Cut() != v.Cut() {
			t.Fatalf("Mul(%v, %v) turned: %v, not %v", a, b, got, want)
		}
	}
}

func TestEyeIsNeutral(t *testing.T) { // P7.4: of all fixed numbers, the greatest ones among them
	r := rand.New(rand.NewPCG(43, 44))
	for rows, columns := range sizes {
		a := picked(r, rows, columns)
		for k, x := range a.V {
			a.V[k] = max(x, -most)
		}
		left, _ := mat.Eye(rows)
		right, _ := mat.Eye(columns)
		expect(t, "Eye ahead", mul(left, a), a, false)
		expect(t, "Eye behind", mul(a, right), a, false)
		row, err := mat.Row(a, rows-1)
		if err != api.OK {
			t.Error(err)
		}
		expect(t, "Eye applied", apply(right, row...), column(row...), false)
	}
}

func TestWholeNumbersAreExact(t *testing.T) { // P7.4
	r := rand.New(rand.NewPCG(45, 46))
	small := func(rows, columns int) (plain, fixed api.Mat) {
		plain, _ = by(rows, columns, func(i, k int) (int, bool) { return r.IntN(20001) - 10000, false })
		return plain, whole(rows, slices.Clone(plain.V)...)
	}
	for range 3000 {
		rows, inner, columns := 1+r.IntN(dim), 1+r.IntN(dim), 1+r.IntN(dim)
		a, fa := small(rows, inner)
		b, fb := small(inner, columns)
		c, fc := small(rows, inner)
		want, _ := by(rows, columns, func(i, k int) (int, bool) {
			n := 0
			for j := range inner {
				n += entry(a, i, j) * entry(b, j, k)
			}
			return one * n, false
		})
		expect(t, "Mul", mul(fa, fb), want, false)
		want, _ = by(rows, inner, func(i, k int) (int, bool) { return one * (entry(a, i, k) + entry(c, i, k)), false })
		expect(t, "Sum", sum(fa, fc), want, false)
		expect(t, "Less", less(want, fc), fa, false)
		want, _ = by(rows, inner, func(i, k int) (int, bool) { return -7 * one * entry(a, i, k), false })
		expect(t, "Scale", scale(fa, -7*one), want, false)
		if t.Failed() {
			t.Fatal("of", a, b, c)
		}
	}
}
