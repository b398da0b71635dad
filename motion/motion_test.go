package motion_test

import (
	"fmt"
	"math"
	"math/big"
	"math/rand/v2"
	"slices"
	"testing"

	"binnacle/api"
	"binnacle/fix"
	"binnacle/motion"
	"binnacle/unit"
)

// The limits as ints, since tests negate and add to them.
const (
	one  = api.One
	half = api.One / 2
	part = api.MaxPart
	most = api.MaxFix
	none = math.MinInt
	dim  = api.MaxN
	late = api.MaxTime
)

// call is one of the functions, of a unit and what else it is handed. Of Span the matrix is of what it answers, alone.
type call func(u *unit.Unit) (api.Mat, api.Errno)

func span(m api.Model, ticks int) call {
	return func(u *unit.Unit) (api.Mat, api.Errno) {
		n, err := motion.Span(u, m, ticks)
		if err != api.OK && n == 0 {
			return api.Mat{}, err
		}
		return of(1, n), err
	}
}

func flow(m api.Model, ticks int) call {
	return func(u *unit.Unit) (api.Mat, api.Errno) { return motion.Flow(u, m, ticks) }
}

func noise(m api.Model, ticks int) call {
	return func(u *unit.Unit) (api.Mat, api.Errno) { return motion.Noise(u, m, ticks) }
}

// calls are all of them, of the same model and ticks.
func calls(m api.Model, ticks int) map[string]call {
	return map[string]call{"Span": span(m, ticks), "Flow": flow(m, ticks), "Noise": noise(m, ticks)}
}

// of is the matrix of so many rows.
func of(rows int, l ...int) api.Mat { return api.Mat{R: rows, C: len(l) / rows, V: l} }

// whole is the matrix of so many rows of numbers times One.
func whole(rows int, l ...int) api.Mat { return of(rows, ones(l...)...) }

// ones is numbers times One.
func ones(l ...int) []int {
	for k := range l {
		l[k] *= one
	}
	return l
}

// noughts is a matrix of n rows and columns that has 0 everywhere.
func noughts(n int) api.Mat { return of(n, make([]int, n*n)...) }

// eye has One on its diagonal, and 0 else.
func eye(n int) api.Mat {
	m := noughts(n)
	for i := range n {
		m.V[i*n+i] = one
	}
	return m
}

// turn exchanges rows and columns of a square matrix.
func turn(m api.Mat) api.Mat {
	t := noughts(m.R)
	for k, x := range m.V {
		t.V[k%m.R*m.R+k/m.R] = x
	}
	return t
}

// same tells whether two matrices are bit for bit the same.
func same(a, b api.Mat) bool { return a.R == b.R && a.C == b.C && slices.Equal(a.V, b.V) }

// empty tells whether a matrix is the zero value of one.
func empty(m api.Mat) bool { return m.R == 0 && m.C == 0 && len(m.V) == 0 }

// model is one of as many numbers as gain noise.
func model(tick int, a, q []int) api.Model {
	return api.Model{N: len(q), A: a, Q: q, Tick: tick, Gate: 1, Rmin: 1}
}

// chapter is the model of the chapter's examples.
func chapter() api.Model { return model(one, ones(0, 1, 0, 0), ones(0, 3)) }

// still is a model of n numbers, none of which moves or gains noise.
func still(n int) api.Model { return model(one, make([]int, n*n), make([]int, n)) }

// full is a model of n numbers that may be, with the same number above all of the diagonal, and the same noise everywhere.
func full(n, tick, a, q int) api.Model {
	m := model(tick, make([]int, n*n), slices.Repeat([]int{q}, n))
	for k := range m.A {
		if k%n > k/n {
			m.A[k] = a
		}
	}
	return m
}

// chain is a model of n numbers, each of which moves by the next one, and the last one gains noise alone.
func chain(n, tick, q int) api.Model {
	m := still(n)
	m.Tick, m.Q[n-1] = tick, q
	for i := range n - 1 {
		m.A[i*n+i+1] = one
	}
	return m
}

// modelCopy shares nothing with m.
func modelCopy(m api.Model) api.Model {
	m.A, m.Q, m.Rows = slices.Clone(m.A), slices.Clone(m.Q), slices.Clone(m.Rows)
	for i := range m.Rows {
		m.Rows[i].H = slices.Clone(m.Rows[i].H)
	}
	return m
}

// changed is m with one thing done to it, which shares nothing with m.
func changed(m api.Model, do func(m *api.Model)) api.Model {
	m = modelCopy(m)
	do(&m)
	return m
}

// mayNotBe are some models that may not be, of each cause at least one.
func mayNotBe() map[string]api.Model {
	m := chapter()
	m.Rows = []api.Row{{Sensor: 3, H: []int{one, 0}, R: 5}, {Sensor: 7, H: []int{0, one}, R: 5}}
	l := map[string]api.Model{"no numbers": {}, "N alone": {N: 2}, "none of six": changed(still(6), func(m *api.Model) { m.N = 0 })}
	for name, do := range map[string]func(m *api.Model){
		"no list A": func(m *api.Model) { m.A = nil }, "A short": func(m *api.Model) { m.A = m.A[:3] }, "A long": func(m *api.Model) { m.A = append(m.A, 0) }, "A of one row": func(m *api.Model) { m.A = m.A[:2] },
		"A in the diagonal": func(m *api.Model) { m.A[0] = 1 }, "A in the last place": func(m *api.Model) { m.A[3] = -1 }, "A below": func(m *api.Model) { m.A[2] = one }, "A too great": func(m *api.Model) { m.A[1] = part + 1 }, "A too small": func(m *api.Model) { m.A[1] = -part - 1 }, "A -2^63": func(m *api.Model) { m.A[1] = none },
		"no list Q": func(m *api.Model) { m.Q = nil }, "Q short": func(m *api.Model) { m.Q = m.Q[:1] }, "Q long": func(m *api.Model) { m.Q = append(m.Q, 0) }, "Q below 0": func(m *api.Model) { m.Q[0] = -1 }, "Q too great": func(m *api.Model) { m.Q[1] = part + 1 }, "Q -2^63": func(m *api.Model) { m.Q[1] = none },
		"Gate 0": func(m *api.Model) { m.Gate = 0 }, "Gate -2^63": func(m *api.Model) { m.Gate = none }, "Rmin 0": func(m *api.Model) { m.Rmin = 0 }, "Rmin above R": func(m *api.Model) { m.Rmin = 6 },
		"too many rows": func(m *api.Model) { m.Rows = slices.Repeat(m.Rows[:1], api.MaxRows+1) }, "a sensor 0": func(m *api.Model) { m.Rows[0].Sensor = 0 }, "a sensor 17": func(m *api.Model) { m.Rows[1].Sensor = 17 }, "sensors falling": func(m *api.Model) { m.Rows[0].Sensor = 8 }, "H short": func(m *api.Model) { m.Rows[1].H = m.Rows[1].H[:1] }, "H too great": func(m *api.Model) { m.Rows[1].H[0] = part + 1 },
	} {
		l[name] = changed(m, do)
	}
	for _, n := range []int{none, -2, -1, 0, 1, 3, 7, 12, 1 << 32, 1<<32 + 2, 1 << 62, most} {
		l[fmt.Sprint("N ", n)] = changed(m, func(m *api.Model) { m.N = n })
	}
	for _, n := range []int{none, -one, -1, 0, one + 1, 2 * one, most} {
		l[fmt.Sprint("Tick ", n)] = changed(m, func(m *api.Model) { m.Tick = n })
	}
	for _, n := range []int{7, 12, 13} {
		l[fmt.Sprint("still, N ", n)] = still(n)
	}
	return l
}

// noTicks are numbers of ticks that are not from -2^40 to 2^40.
func noTicks() []int {
	return []int{none, none + 1, -1 << 62, -1 << 41, -late - 2, -late - 1, late + 1, late + 2, 1 << 41, 1 << 62, most - 1, most}
}

// expect fails unless the call answers this matrix of a new unit, and leaves its flag so.
func expect(t *testing.T, name string, do call, cut bool, want api.Mat) {
	t.Helper()
	u := unit.New()
	m, err := do(u)
	if err != api.OK || !same(m, want) || u.Cut() != cut {
		t.Errorf("%s: %v, %d, cut %v, not %v, %v", name, m, int(err), u.Cut(), want, cut)
	}
}

// refused fails unless the call is refused so, without an answer, and a unit is left as it was: neither its flag nor its count tells of it.
func refused(t *testing.T, name string, do call, want api.Errno) {
	t.Helper()
	for _, set := range []bool{false, true} {
		u := unit.New()
		u.Set(set)
		m, err := do(u)
		if err != want || !empty(m) {
			t.Errorf("%s: %v, %d, not %d", name, m, int(err), int(want))
		}
		if u.Cut() != set || u.Count() != 0 {
			t.Errorf("%s: it reckoned: cut %v, count %d", name, u.Cut(), u.Count())
		}
	}
}

// book reckons by fix itself, and keeps in mind what was cut, and how many operations there were.
type book struct {
	cut   bool
	count int
}

func (b *book) note(n int, cut bool) int {
	b.cut = b.cut || cut
	b.count++
	return n
}

// add and mul are of two numbers, from 0 and One on, as a unit's are.
func (b *book) add(x, y int) int { return b.note(fix.Add(b.note(fix.Add(0, x)), y)) }
func (b *book) mul(x, y int) int { return b.note(fix.Mul(b.note(fix.Mul(one, x)), y)) }

// product is of two square matrices: each entry from 0 on, pair by pair.
func (b *book) product(x, y api.Mat) api.Mat {
	made := noughts(x.R)
	for k := range made.V {
		for j := range x.R {
			made.V[k] = b.note(fix.Add(made.V[k], b.note(fix.Mul(x.V[k/x.R*x.R+j], y.V[j*x.R+k%x.R]))))
		}
	}
	return made
}

// sum is of two matrices, entry by entry.
func (b *book) sum(x, y api.Mat) api.Mat {
	made := noughts(x.R)
	for k := range made.V {
		made.V[k] = b.add(x.V[k], y.V[k])
	}
	return made
}

// share is each entry divided by a whole number.
func (b *book) share(x api.Mat, n int) api.Mat {
	made := noughts(x.R)
	for k := range made.V {
		made.V[k] = b.note(fix.Div(x.V[k], b.note(fix.Whole(n))))
	}
	return made
}

// at is a polynomial's value, by chapter 9's words: of each place by itself, since none hangs on another.
func (b *book) at(l []api.Mat, s int) api.Mat {
	made := noughts(l[0].R)
	for k := range made.V {
		x := l[len(l)-1].V[k]
		for m := len(l) - 2; m >= 0; m-- {
			x = b.add(b.mul(x, s), l[m].V[k])
		}
		made.V[k] = x
	}
	return made
}

// span, flow and noise are by the promises' words.
func (b *book) span(m api.Model, ticks int) int { return b.mul(b.note(fix.Whole(ticks)), m.Tick) }

func (b *book) flow(m api.Model, ticks int) api.Mat {
	l := []api.Mat{eye(m.N)}
	for k := 1; k < m.N; k++ {
		l = append(l, b.share(b.product(l[k-1], of(m.N, m.A...)), k))
	}
	return b.at(l, b.span(m, ticks))
}

func (b *book) coefficients(m api.Model) []api.Mat {
	first := noughts(m.N)
	for i, q := range m.Q {
		first.V[i*m.N+i] = q
	}
	l := []api.Mat{first}
	for k := 2; k <= 2*m.N-1; k++ {
		x := b.product(of(m.N, m.A...), l[k-2])
		l = append(l, b.share(b.sum(x, turn(x)), k))
	}
	return l
}

func (b *book) noise(m api.Model, ticks int) api.Mat {
	s := b.span(m, ticks)
	made := b.at(b.coefficients(m), s)
	for k, x := range made.V {
		made.V[k] = b.mul(x, s)
	}
	return made
}

// drawn is a model of n numbers that may be, by chance: of whole numbers, of small ones, or of any.
func drawn(r *rand.Rand, n int) api.Model {
	number := func() int { return r.IntN(part + 1) }
	switch r.IntN(4) {
	case 0:
		number = func() int { return r.IntN(17) * one }
	case 1:
		number = func() int { return r.IntN(one) }
	case 2:
		number = func() int { return []int{0, 0, 1, 2, 3, half, one - 1, one, one + 1, part - 1, part}[r.IntN(11)] }
	}
	m := full(n, []int{1, 2, 3, half, one - 1, one, 1 + r.IntN(one), 1 + r.IntN(1000)}[r.IntN(8)], 0, 0)
	for k := range m.A {
		if k%n > k/n {
			m.A[k] = number() * (1 - 2*r.IntN(2))
		}
	}
	for k := range m.Q {
		m.Q[k] = number()
	}
	return m
}

// some is a number of ticks that may be, from 0 on: mostly small, at times as great as may be.
func some(r *rand.Rand) int {
	if r.IntN(12) == 0 {
		return []int{late, late - 1, 1<<31 - 1, 1 << 31, 1<<31 + 1, 1 << 32}[r.IntN(6)]
	}
	return r.IntN(1 << (1 + r.IntN(14)))
}

func TestExamples(t *testing.T) {
	m := chapter()
	expect(t, "Span(u, m, 2)", span(m, 2), false, whole(1, 2))
	expect(t, "Flow(u, m, 2)", flow(m, 2), false, whole(2, 1, 2, 0, 1))
	expect(t, "Noise(u, m, 2)", noise(m, 2), false, whole(2, 8, 6, 6, 6))
	expect(t, "Flow(u, m, -2)", flow(m, -2), false, whole(2, 1, -2, 0, 1))
	expect(t, "Noise(u, m, 0)", noise(m, 0), false, noughts(2))
	refused(t, "Noise(u, m, -1)", noise(m, -1), api.ErrRange)
	if f, err := motion.Flow(nil, m, 1); err != api.ErrNil || !empty(f) {
		t.Error("Flow(none, m, 1):", f, err)
	}
	refused(t, "Span(u, a model of no numbers, 1)", span(api.Model{}, 1), api.ErrArg)
	refused(t, "Flow(u, m, 2^40 + 1)", flow(m, 1<<40+1), api.ErrRange)
}

func TestNoUnit(t *testing.T) { // Rule 5: ahead of ErrArg and ErrRange, too
	models := mayNotBe()
	models["the chapter's"], models["of one"], models["of six"] = chapter(), still(1), full(6, one, part, part)
	for of, m := range models {
		for _, ticks := range append(noTicks(), -late, -1, 0, 1, late) {
			for name, do := range calls(m, ticks) {
				for _, u := range []*unit.Unit{nil, {}, new(unit.Unit)} {
					answer, err := do(u)
					if err != api.ErrNil || !empty(answer) {
						t.Errorf("%s, %s, %d: %v, %d", name, of, ticks, answer, int(err))
					}
					if u != nil && (u.Cut() || u.Count() != 0) {
						t.Errorf("%s, %s, %d: it reckoned", name, of, ticks)
					}
				}
			}
		}
	}
}

func TestModelsThatMayNotBe(t *testing.T) { // P11.1, P11.2: ErrArg, ahead of ErrRange
	for of, m := range mayNotBe() {
		for _, ticks := range append(noTicks(), -late, -2, -1, 0, 1, 2, late) {
			for name, do := range calls(m, ticks) {
				refused(t, fmt.Sprint(name, ", ", of, ", ", ticks), do, api.ErrArg)
			}
		}
	}
}

func TestTicksThatMayNotBe(t *testing.T) { // P11.1, P11.2
	for _, m := range []api.Model{chapter(), still(1), full(6, one, part, part), full(3, 1, -1, 1)} {
		for _, ticks := range noTicks() {
			for name, do := range calls(m, ticks) {
				refused(t, fmt.Sprint(name, " of ", m.N, ", ", ticks), do, api.ErrRange)
			}
		}
		for _, ticks := range []int{-late, -late + 1, -1 << 32, -one - 1, -2, -1} {
			refused(t, fmt.Sprint("Noise of ", m.N, ", ", ticks), noise(m, ticks), api.ErrRange)
		}
		for _, ticks := range []int{-late, -late + 1, -1, 0, 1, late - 1, late} {
			for name, do := range calls(m, ticks) {
				if answer, err := do(unit.New()); err != api.OK && (name != "Noise" || ticks >= 0) || err == api.OK && empty(answer) {
					t.Errorf("%s of %d, %d: %v, %d", name, m.N, ticks, answer, int(err))
				}
			}
		}
	}
}

func TestSpan(t *testing.T) { // P11.1
	for _, x := range []struct {
		tick, ticks, want int
		cut               bool
	}{
		{one, 0, 0, false}, {one, 1, one, false}, {one, 2, 2 * one, false}, {one, 1000, 1000 * one, false}, {1, 0, 0, false}, {1, 1, 1, false}, {1, 7, 7, false}, {half, 5, 5 * half, false}, {3, 5, 15, false}, {one - 1, 3, 3*one - 3, false}, {one / 1000, 1000, 4294967000, false},
		{1, 1<<31 - 1, 1<<31 - 1, false}, {one, 1<<31 - 1, 1<<63 - one, false}, {3, 1<<31 - 1, 3<<31 - 3, false}, // the greatest one that is a fixed number as it is
		{1, 1 << 31, 1 << 31, true}, {2, 1 << 31, 1 << 32, true}, {one, 1 << 31, most, true}, {one, 1<<31 + 1, most, true}, {one, late, most, true}, {1, late, 1 << 31, true}, // cut ahead of the product
		{half, 1 << 31, 1 << 62, true}, {half, late, 1 << 62, true}, // in the middle of 2^62 - 1 and 2^62: to the even one
		{half - 1, 1 << 31, 1<<62 - 1<<31, true}, {half + 1, 1 << 31, 1<<62 + 1<<31 - 1, true}, {3 << 30, late, 3<<61 - 1, true}, {1 << 30, late, 1 << 61, true}, {one - 1, late, 1<<63 - 1<<31 - 1, true},
	} {
		m := full(1+x.ticks%dim, x.tick, part, part)
		expect(t, fmt.Sprintf("Span(%d, %d)", x.tick, x.ticks), span(m, x.ticks), x.cut, of(1, x.want))
		expect(t, fmt.Sprintf("Span(%d, %d)", x.tick, -x.ticks), span(m, -x.ticks), x.cut, of(1, -x.want))
	}
	u := unit.New()
	if motion.Span(u, full(6, 5, part, part), 7); u.Count() != 3 {
		t.Error("Span is one Whole and a Mul of two, not so many operations:", u.Count())
	}
}

func TestFlow(t *testing.T) { // P11.1
	for _, ticks := range []int{-late, -1 << 31, -1, 0, 1, 5, 1<<31 - 1, 1 << 31, late} {
		cut := ticks >= 1<<31 || ticks <= -1<<31
		expect(t, fmt.Sprint("of one number, ", ticks), flow(full(1, one, 0, part), ticks), cut, of(1, one))
		for n := 1; n <= dim; n++ {
			expect(t, fmt.Sprint("what does not move, ", ticks), flow(still(n), ticks), cut, eye(n))
		}
	}
	m := chapter()
	for _, x := range []struct {
		a, tick, ticks, want int
		cut                  bool
	}{
		{one, one, 1, one, false}, {one, one, -1, -one, false}, {-2 * one, one, 3, -6 * one, false}, {one, 1, 1, 1, false}, {one, 1, 9, 9, false}, {part, 1, 2, 32, false}, {part, one, 1 << 20, 1 << 56, false},
		{1, half, 1, 0, false}, {1, half, 3, 2, false}, {3, half, 1, 2, false}, {1, half, -1, 0, false}, {3, half, -1, -2, false}, {5, half, 1, 2, false}, {1, one, 5, 5, false}, {1, 1, 1, 0, false}, // halves to the even one
		{1, half + 1, 1, 1, false}, {1, half - 1, 1, 0, false}, {7, one / 4, 3, 5, false},
		{part, one, 1<<27 - 1, 1<<63 - part, false}, {part, one, 1 << 27, most, true}, {part, one, -1 << 27, -most, true}, {-part, one, 1 << 27, -most, true}, {one, one, late, most, true}, {1, one, late, 1 << 31, true}, {one, 1, late, 1 << 31, true}, {0, one, late, 0, true},
	} {
		m.A[1], m.Tick = x.a, x.tick
		expect(t, fmt.Sprintf("Flow(%d, %d, %d)", x.a, x.tick, x.ticks), flow(m, x.ticks), x.cut, of(2, one, x.want, 0, one))
	}
	expect(t, "three numbers", flow(chain(3, one, 0), 4), false, whole(3, 1, 4, 8, 0, 1, 4, 0, 0, 1))
	expect(t, "three numbers, back", flow(chain(3, one, 0), -4), false, whole(3, 1, -4, 8, 0, 1, -4, 0, 0, 1))
	expect(t, "three numbers, by halves", flow(chain(3, half, 0), 4), false, whole(3, 1, 2, 2, 0, 1, 2, 0, 0, 1))
	expect(t, "four numbers", flow(chain(4, one, 0), 3), false, of(4, one, 3*one, 9*half, 9*half+9, 0, one, 3*one, 9*half, 0, 0, one, 3*one, 0, 0, 0, one)) // a third of One / 2 is a third of a part more, 27 times
	six := flow(chain(6, one, part), 2)
	f, err := six(unit.New())
	if want := []int{one, 2 * one, 2 * one, 5726623064, 2863311536, 1145324608}; err != api.OK || !slices.Equal(f.V[:6], want) { // each term to the nearest part, and then by the span
		t.Error("six numbers:", f.V[:6], err)
	}
}

func TestNoise(t *testing.T) { // P11.2
	for _, x := range []struct {
		q, tick, ticks, want int
		cut                  bool
	}{
		{one, one, 1, one, false}, {3 * one, one, 4, 12 * one, false}, {part, one, 1 << 20, 1 << 56, false}, {0, one, 5, 0, false}, {one, 1, 1, 1, false}, {one, 1, 9, 9, false}, {part, 1, 1, 16, false},
		{1, half, 1, 0, false}, {1, half, 3, 2, false}, {3, half, 1, 2, false}, {5, half, 1, 2, false}, {7, half, 1, 4, false}, {1, half + 1, 1, 1, false}, {1, 1, 1, 0, false}, {1, one, 5, 5, false}, // halves to the even one
		{part, one, 1<<27 - 1, 1<<63 - part, false}, {part, one, 1 << 27, most, true}, {one, one, 1<<31 - 1, 1<<63 - one, false}, {one, one, 1 << 31, most, true}, {one, one, late, most, true}, {1, one, late, 1 << 31, true}, {one, 1, late, 1 << 31, true}, {0, one, late, 0, true}, {part, one, 0, 0, false},
	} {
		expect(t, fmt.Sprintf("Noise of one number, %d, %d, %d", x.q, x.tick, x.ticks), noise(full(1, x.tick, 0, x.q), x.ticks), x.cut, of(1, x.want))
		want := noughts(6)
		want.V[0], want.V[35] = x.want, x.want
		m := still(6)
		m.Tick, m.Q[0], m.Q[5] = x.tick, x.q, x.q
		expect(t, fmt.Sprintf("Noise of six that do not move, %d, %d, %d", x.q, x.tick, x.ticks), noise(m, x.ticks), x.cut, want)
	}
	for n := 1; n <= dim; n++ {
		expect(t, "no noise, none gained", noise(full(n, one, part, 0), 1000), false, noughts(n))
		expect(t, "nought ticks", noise(full(n, one, part, 1), 0), false, noughts(n))
	}
	two := func(a, q0, q1, tick int) api.Model { return model(tick, []int{0, a, 0, 0}, []int{q0, q1}) }
	expect(t, "both gain noise", noise(two(one, 2*one, 3*one, one), 2), false, whole(2, 12, 6, 6, 6))
	expect(t, "the first one alone", noise(two(one, 2*one, 0, one), 3), false, whole(2, 6, 0, 0, 0))
	expect(t, "backwards", noise(two(-2*one, 0, 3*one, one), 2), false, whole(2, 32, -12, -12, 6))
	expect(t, "by halves", noise(two(one, 0, 3*one, half), 2), false, of(2, one, 3*half, 3*half, 3*one))
	expect(t, "a third is rounded", noise(two(one, 0, one, one), 1), false, of(2, 1431655765, half, half, one))
	expect(t, "a third is rounded, 27 times", noise(two(one, 0, one, one), 3), false, of(2, 9*one-9, 9*half, 9*half, 3*one)) // 1431655765 by 27
	expect(t, "two thirds are rounded", noise(two(one, 0, 2*one, one), 3), false, of(2, 18*one+9, 9*one, 9*one, 6*one))      // 2863311531 by 27
	expect(t, "a half of 1 to the even one", noise(two(one, 0, 1, one), 2), false, of(2, 0, 0, 0, 2))                        // D_2 is nought
	expect(t, "a half of 3 to the even one", noise(two(one, 0, 3, one), 2), false, of(2, 8, 8, 8, 6))                        // D_2 is 2, D_3 4 by 3
	expect(t, "the whole sum by three, not each", noise(two(one, 0, 5, one), 1), false, of(2, 1, 2, 2, 5))                   // D_2 is 2, D_3 4 by 3, not twice 2 by 3
	expect(t, "each product to the nearest part", noise(two(one, 0, 6, half), 1), false, of(2, 0, 1, 1, 3))                  // D_3 is 2, by halves 1, 0, 0
	three := chain(3, one, 12*one)                                                                                           // of q: q / 20, q / 8, q / 6; q / 3, q / 2; q
	expect(t, "three numbers", noise(three, 1), false, of(3, 2576980378, 3*half, 2*one, 3*half, 4*one, 6*one, 2*one, 6*one, 12*one))
	expect(t, "three numbers, two seconds", noise(three, 2), false, of(3, 32*2576980378, 24*one, 16*one, 24*one, 32*one, 24*one, 16*one, 24*one, 24*one))
	expect(t, "cut in a coefficient", noise(full(6, 1, part, part), 0), true, noughts(6)) // one of six numbers is cut ahead of the division by 9
	expect(t, "not cut in a coefficient", noise(full(5, 1, part, part), 0), false, noughts(5))
	expect(t, "cut by the last product alone", noise(two(one, 0, 3*one, one), 1<<15), true, of(2, most, 3<<61, 3<<61, 3<<47))
	expect(t, "cut by Horner's way", noise(two(one, 0, 3*one, one), 1<<16), true, of(2, most, most, most, 3<<48))
	expect(t, "cut below 0", noise(two(-one, 0, 3*one, one), 1<<16), true, of(2, most, -most, -most, 3<<48))
}

func TestAsBelow(t *testing.T) { // P11.1, P11.2: place by place by fix's own operations, no more and no fewer, cut or not
	r := rand.New(rand.NewPCG(111, 112))
	cuts := map[string]int{}
	for round := range 9000 {
		m, ticks := drawn(r, 1+round%dim), some(r)
		back := ticks * (1 - 2*r.IntN(2))
		for name, x := range map[string]struct {
			do   call
			want func(b *book) api.Mat
		}{
			"Span":  {span(m, back), func(b *book) api.Mat { return of(1, b.span(m, back)) }},
			"Flow":  {flow(m, back), func(b *book) api.Mat { return b.flow(m, back) }},
			"Noise": {noise(m, ticks), func(b *book) api.Mat { return b.noise(m, ticks) }},
		} {
			var b book
			want, u := x.want(&b), unit.New()
			answer, err := x.do(u)
			if err != api.OK || !same(answer, want) || u.Cut() != b.cut || u.Count() != b.count {
				t.Fatalf("%s of %v, %d, %d: %v, %d, cut %v, %d operations, not %v, %v", name, m, ticks, back, answer, int(err), u.Cut(), u.Count(), want, b)
			}
			cuts[fmt.Sprint(name, b.cut)]++
		}
	}
	for _, name := range []string{"Spantrue", "Spanfalse", "Flowtrue", "Flowfalse", "Noisetrue", "Noisefalse"} {
		if cuts[name] < 500 {
			t.Error("too few are cut, or not cut:", cuts)
		}
	}
}

func TestNoTicks(t *testing.T) { // P11.3: the flow is Eye, the noise nought, whatever the model, even where its coefficients are cut
	r := rand.New(rand.NewPCG(113, 114))
	for round := range 2000 {
		n := 1 + round%dim
		m := drawn(r, n)
		if n == dim && r.IntN(3) == 0 {
			m = full(n, 1+r.IntN(one), part, part)
		}
		u := unit.New()
		s, err := motion.Span(u, m, 0)
		f, ferr := motion.Flow(u, m, 0)
		if s != 0 || err != api.OK || !same(f, eye(n)) || ferr != api.OK || u.Cut() {
			t.Fatalf("of %v: %d, %d; %v, %d; cut %v", m, s, int(err), f, int(ferr), u.Cut())
		}
		if q, err := motion.Noise(u, m, 0); err != api.OK || !same(q, noughts(n)) {
			t.Fatalf("of %v: %v, %d", m, q, int(err))
		}
	}
}

func TestNoiseTurned(t *testing.T) { // P11.3: a noise is the same, turned, cut or not
	r := rand.New(rand.NewPCG(115, 116))
	cuts := map[bool]int{}
	for round := range 5000 {
		n := 1 + round%dim
		m, ticks := drawn(r, n), some(r)
		if r.IntN(4) == 0 {
			m.A = full(n, 1, part, 0).A
		}
		u := unit.New()
		q, err := motion.Noise(u, m, ticks)
		if err != api.OK || len(q.V) != n*n || !same(q, turn(q)) {
			t.Fatalf("Noise(%v, %d): %v, %d", m, ticks, q, int(err))
		}
		cuts[u.Cut()]++
	}
	if cuts[true] < 500 || cuts[false] < 500 {
		t.Error("too few are cut, or not cut:", cuts)
	}
}

// parts is a number of fixed ones as a fraction.
func parts(x int) *big.Rat { return big.NewRat(int64(x), one) }

// powers are those of A, by factorials, whole: the power by n is nought.
func powers(m api.Model) [][]*big.Rat {
	n := m.N
	l := [][]*big.Rat{make([]*big.Rat, n*n)}
	for k, x := range eye(n).V {
		l[0][k] = parts(x)
	}
	for p := 1; p < n; p++ {
		next := make([]*big.Rat, n*n)
		for k := range next {
			next[k] = new(big.Rat)
			for j := range n {
				next[k].Add(next[k], new(big.Rat).Mul(l[p-1][k/n*n+j], parts(m.A[j*n+k%n])))
			}
			next[k].Quo(next[k], big.NewRat(int64(p), 1))
		}
		l = append(l, next)
	}
	return l
}

// moved is the exponential of A by s seconds.
func moved(m api.Model, s int) []*big.Rat {
	sum, by := make([]*big.Rat, m.N*m.N), big.NewRat(1, 1)
	for k := range sum {
		sum[k] = new(big.Rat)
	}
	for _, p := range powers(m) {
		for k := range sum {
			sum[k].Add(sum[k], new(big.Rat).Mul(p[k], by))
		}
		by = new(big.Rat).Mul(by, parts(s))
	}
	return sum
}

// gained is the integral of F(s) Q F(s)^T from 0 to s seconds, by the powers of s.
func gained(m api.Model, s int) []*big.Rat {
	n, l := m.N, powers(m)
	sum := make([]*big.Rat, n*n)
	for k := range sum {
		sum[k] = new(big.Rat)
		for a := range l {
			for b := range l {
				by := big.NewRat(1, int64(a+b+1))
				for range a + b + 1 {
					by.Mul(by, parts(s))
				}
				for j := range n {
					x := new(big.Rat).Mul(l[a][k/n*n+j], l[b][k%n*n+j])
					sum[k].Add(sum[k], x.Mul(x, parts(m.Q[j])).Mul(x, by))
				}
			}
		}
	}
	return sum
}

// within fails unless each number is near the one that is wanted.
func within(t *testing.T, name string, m api.Mat, want []*big.Rat, near *big.Rat) {
	t.Helper()
	if len(m.V) != len(want) {
		t.Fatalf("%s: %v", name, m)
	}
	for k, x := range want {
		off := new(big.Rat).Sub(x, parts(m.V[k]))
		if off.Abs(off).Cmp(near) > 0 {
			t.Fatalf("%s: at %d %d is off by %s", name, k, m.V[k], off.FloatString(12))
		}
	}
}

// little is a model of whole numbers from -most to most times One, whose noise is of whole ones, too.
func little(r *rand.Rand, n, most, noise int) api.Model {
	m := full(n, one, 0, 0)
	for k := range m.A {
		if k%n > k/n {
			m.A[k] = (r.IntN(2*most+1) - most) * one
		}
	}
	for k := range m.Q {
		m.Q[k] = r.IntN(noise+1) * one
	}
	return m
}

func TestWhatIsGained(t *testing.T) { // the coefficients are those of the integral: exact where nothing is rounded, else but for what is rounded
	r := rand.New(rand.NewPCG(117, 118))
	for round := range 600 {
		n := 1 + round%dim
		m, ticks, near := little(r, n, 1, 2), r.IntN(3), big.NewRat(1<<16, one)
		if n <= 2 {
			m, ticks, near = little(r, n, 4, 2), r.IntN(40), new(big.Rat)
			for k := range m.Q {
				m.Q[k] *= 3 // so that a third is whole, too
			}
		}
		u := unit.New()
		f, _ := motion.Flow(u, m, -ticks)
		q, _ := motion.Noise(u, m, ticks)
		if u.Cut() {
			t.Fatal("cut:", m, ticks)
		}
		within(t, fmt.Sprint("Flow", m, -ticks), f, moved(m, -ticks*one), near)
		within(t, fmt.Sprint("Noise", m, ticks), q, gained(m, ticks*one), near)
	}
}

func TestSpansOneBehindTheOther(t *testing.T) { // P11.3: at most two small whole numbers, by whole spans
	r := rand.New(rand.NewPCG(119, 120))
	rounded := 0
	for round := range 4000 {
		m, s, s2 := little(r, 1+round%2, 4, 12), r.IntN(21), r.IntN(21)
		u := unit.New()
		first, _ := motion.Noise(u, m, s)
		f, _ := motion.Flow(u, m, s2)
		second, _ := motion.Noise(u, m, s2)
		want, err := motion.Noise(u, m, s+s2)
		f1, _ := motion.Flow(u, m, s)
		fboth, _ := motion.Flow(u, m, s+s2)
		var b book
		both := b.sum(b.product(b.product(f, first), turn(f)), second)
		if err != api.OK || u.Cut() || b.cut || !same(b.product(f, f1), fboth) {
			t.Fatalf("of %v, %d and %d: %d, cut %v", m, s, s2, int(err), u.Cut() || b.cut)
		}
		if m.N == 2 { // a third that is not whole is off by at most half a part, which each span takes as often as it is long
			a, q := m.A[1]/one, m.Q[1]/one
			third := (a*a*q*one + 1) / 3
			off := (3*third - a*a*q*one) * (s*s*s2 + s*s2*s2)
			both.V[0] += off
			if off != 0 {
				rounded++
			}
		}
		if !same(both, want) {
			t.Fatalf("of %v, %d and %d: %v, not %v", m, s, s2, both, want)
		}
	}
	if rounded < 200 || rounded > 1500 {
		t.Error("too few are rounded, or not:", rounded)
	}
}

func TestFlagStays(t *testing.T) { // P11.1, P11.2: what was cut ahead is kept in mind, and what is not cut clears nothing
	m := chapter()
	cuts := []call{span(m, 1<<31), flow(m, 1<<31), noise(m, 1291)}
	fine := []call{span(m, 1<<31-1), flow(m, 1<<31-1), noise(m, 1290)}
	for k, cut := range cuts {
		u := unit.New()
		for i, do := range fine {
			if do(u); u.Cut() {
				t.Errorf("call %d: cut", i)
			}
		}
		if cut(u); !u.Cut() {
			t.Errorf("call %d: not cut", k)
		}
		for i, do := range fine {
			if do(u); !u.Cut() {
				t.Errorf("call %d: the flag is gone", i)
			}
		}
		u.Clear()
		if fine[k](u); u.Cut() {
			t.Errorf("call %d: a flag that was cleared is set by what is not cut", k)
		}
	}
}

func TestUnitsAlike(t *testing.T) { // P11.1, P11.2: what is told does not hang on what a unit did, nor on its flag, and costs as many operations again
	m := full(3, half+1, 3*half, 5)
	for name, do := range calls(m, 9) {
		u := unit.New()
		first, _ := do(u)
		count := u.Count()
		u.Set(true)
		second, err := do(u)
		if err != api.OK || !same(first, second) || u.Count() != 2*count || count == 0 {
			t.Errorf("%s: %v, then %v, %d, %d operations, then %d", name, first, second, int(err), count, u.Count())
		}
	}
}

// sameModel tells whether two models are the same in all that stands in them.
func sameModel(a, b api.Model) bool {
	return a.N == b.N && slices.Equal(a.A, b.A) && slices.Equal(a.Q, b.Q) && a.Tick == b.Tick && a.Gate == b.Gate && a.Rmin == b.Rmin && slices.EqualFunc(a.Rows, b.Rows, func(a, b api.Row) bool {
		return a.Sensor == b.Sensor && a.R == b.R && slices.Equal(a.H, b.H)
	})
}

// spoil writes over what was answered, and its spare room.
func spoil(m api.Mat) {
	v := m.V[:cap(m.V)]
	for i := range v {
		v[i] = 99
	}
}

func TestWhatWasHandedInStays(t *testing.T) { // DOC.md's Rule 4, and its spare room
	for n := 1; n <= dim; n++ {
		m := full(n, half, one, 3*one)
		m.Rows = []api.Row{{Sensor: 2, H: slices.Repeat([]int{7}, n), R: 5}}
		size := len(m.A)
		room := slices.Concat(m.A, m.Q, m.Rows[0].H, []int{none, most, 5})
		m.A, m.Q, m.Rows[0].H = room[:size], room[size:size+n], room[size+n:size+2*n] // each has what is behind it as its spare room
		was, wasRoom := modelCopy(m), slices.Clone(room)
		for _, ticks := range []int{-3, 0, 3, late, late + 1} {
			for name, do := range calls(m, ticks) {
				answer, _ := do(unit.New())
				spoil(answer)
				if !sameModel(m, was) || !slices.Equal(room, wasRoom) {
					t.Fatalf("%s of %d, %d: %v, %v", name, n, ticks, m, room)
				}
			}
		}
	}
}

func TestAnswersAreNew(t *testing.T) { // DOC.md's Rule 4: what is handed in is not looked at later, and no two answers share anything
	for n := 1; n <= dim; n++ {
		m := full(n, one, one, 3*one)
		var b book
		for k, want := range map[int][]api.Mat{0: {eye(n), noughts(n)}, 2: {b.flow(m, 2), b.noise(m, 2)}} {
			m, u := modelCopy(m), unit.New()
			f, _ := motion.Flow(u, m, k)
			q, _ := motion.Noise(u, m, k)
			for _, do := range []call{flow(m, k), noise(m, k)} {
				again, _ := do(u)
				spoil(again)
			}
			for i := range m.A {
				m.A[i] = none
			}
			for i := range m.Q {
				m.Q[i] = none
			}
			if !same(f, want[0]) || !same(q, want[1]) {
				t.Errorf("of %d, %d: %v, %v, not %v", n, k, f, q, want)
			}
			spoil(f)
			if !same(q, want[1]) {
				t.Errorf("of %d, %d: the flow and the noise share numbers", n, k)
			}
		}
	}
}
