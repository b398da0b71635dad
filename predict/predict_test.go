package predict_test

import (
	"fmt"
	"math"
	"math/rand/v2"
	"slices"
	"testing"

	"binnacle/api"
	"binnacle/fix"
	"binnacle/model"
	"binnacle/predict"
	"binnacle/unit"
)

// The limits as ints, since tests negate and add to them.
const (
	one  = api.One
	half = api.One / 2
	part = api.MaxPart
	most = api.MaxFix
	none = math.MinInt
	dim  = api.MaxN
	late = api.MaxTime
	many = api.MaxCount
)

// call is one of the functions, of a unit and what else it is handed. Of Held the belief's lists are how many rows and columns there are, and the numbers.
type call func(u *unit.Unit) (api.Belief, api.Errno)

func to(m api.Model, b api.Belief, at int) call {
	return func(u *unit.Unit) (api.Belief, api.Errno) { return predict.To(u, m, b, at) }
}

func held(p api.Mat) call {
	return func(u *unit.Unit) (api.Belief, api.Errno) {
		p, err := predict.Held(u, p)
		if p.R == 0 && p.C == 0 {
			return api.Belief{P: p.V}, err
		}
		return api.Belief{X: []int{p.R, p.C}, P: p.V}, err
	}
}

// of is the matrix of so many rows.
func of(rows int, l ...int) api.Mat { return api.Mat{R: rows, C: len(l) / rows, V: l} }

// ones is numbers times One.
func ones(l ...int) []int {
	for k := range l {
		l[k] *= one
	}
	return l
}

// noughts is a matrix of n rows and columns that has 0 everywhere.
func noughts(n int) api.Mat { return of(n, make([]int, n*n)...) }

// diag is a matrix that has l's numbers in its diagonal, and 0 else.
func diag(l ...int) api.Mat {
	m := noughts(len(l))
	for i, x := range l {
		m.V[i*len(l)+i] = x
	}
	return m
}

// turn exchanges rows and columns of a square matrix.
func turn(m api.Mat) api.Mat {
	t := noughts(m.R)
	for k, x := range m.V {
		t.V[k%m.R*m.R+k/m.R] = x
	}
	return t
}

// same tells whether two beliefs are bit for bit the same.
func same(a, b api.Belief) bool {
	return a.At == b.At && slices.Equal(a.X, b.X) && slices.Equal(a.P, b.P) && a.Flag == b.Flag && a.Pass == b.Pass && a.Fail == b.Fail
}

// empty tells whether a belief is the zero value of one.
func empty(b api.Belief) bool { return same(b, api.Belief{}) }

// chapter is the model of the chapter's examples, chapterBelief the belief.
func chapter() api.Model {
	return api.Model{N: 2, A: ones(0, 1, 0, 0), Q: ones(0, 6), Tick: one, Gate: 1, Rmin: 1}
}

func chapterBelief() api.Belief {
	return api.Belief{At: 3, X: ones(1, 2), P: ones(1, 0, 0, 1), Pass: 4}
}

// full is a model of n numbers that may be, with the same number above all of the diagonal, and the same noise everywhere.
func full(n, tick, a, q int) api.Model {
	m := api.Model{N: n, A: make([]int, n*n), Q: slices.Repeat([]int{q}, n), Tick: tick, Gate: 1, Rmin: 1}
	for k := range m.A {
		if k%n > k/n {
			m.A[k] = a
		}
	}
	return m
}

// still is a model of n numbers, none of which moves or gains noise.
func still(n int) api.Model { return full(n, one, 0, 0) }

// two is a model of two numbers, the first of which moves by the second.
func two(tick, a, q0, q1 int) api.Model {
	m := full(2, tick, a, 0)
	m.Q = []int{q0, q1}
	return m
}

// chain is a model of n numbers, each of which moves by the next one, without noise.
func chain(n, tick int) api.Model {
	m := still(n)
	m.Tick = tick
	for i := range n - 1 {
		m.A[i*n+i+1] = one
	}
	return m
}

// flat is a belief of n numbers that fits: the same number everywhere in both lists.
func flat(n, at, x, p int) api.Belief {
	return api.Belief{At: at, X: slices.Repeat([]int{x}, n), P: slices.Repeat([]int{p}, n*n)}
}

// modelCopy shares nothing with m, beliefCopy nothing with b.
func modelCopy(m api.Model) api.Model {
	m.A, m.Q, m.Rows = slices.Clone(m.A), slices.Clone(m.Q), slices.Clone(m.Rows)
	for i := range m.Rows {
		m.Rows[i].H = slices.Clone(m.Rows[i].H)
	}
	return m
}

func beliefCopy(b api.Belief) api.Belief {
	b.X, b.P = slices.Clone(b.X), slices.Clone(b.P)
	return b
}

// mayNotBe are some models that may not be, of each cause at least one.
func mayNotBe() map[string]api.Model {
	l := map[string]api.Model{"no numbers": {}, "N alone": {N: 2}}
	for name, do := range map[string]func(m *api.Model){
		"N 0": func(m *api.Model) { m.N = 0 }, "N 1": func(m *api.Model) { m.N = 1 }, "N 3": func(m *api.Model) { m.N = 3 }, "N 7": func(m *api.Model) { m.N = 7 }, "N -2": func(m *api.Model) { m.N = -2 }, "N great": func(m *api.Model) { m.N = 1<<32 + 2 }, "N -2^63": func(m *api.Model) { m.N = none },
		"no list A": func(m *api.Model) { m.A = nil }, "A short": func(m *api.Model) { m.A = m.A[:3] }, "A long": func(m *api.Model) { m.A = append(m.A, 0) },
		"A in the diagonal": func(m *api.Model) { m.A[0] = 1 }, "A below": func(m *api.Model) { m.A[2] = one }, "A too great": func(m *api.Model) { m.A[1] = part + 1 }, "A -2^63": func(m *api.Model) { m.A[1] = none },
		"no list Q": func(m *api.Model) { m.Q = nil }, "Q short": func(m *api.Model) { m.Q = m.Q[:1] }, "Q long": func(m *api.Model) { m.Q = append(m.Q, 0) }, "Q below 0": func(m *api.Model) { m.Q[0] = -1 }, "Q too great": func(m *api.Model) { m.Q[1] = part + 1 },
		"Tick 0": func(m *api.Model) { m.Tick = 0 }, "Tick too great": func(m *api.Model) { m.Tick = one + 1 }, "Tick below 0": func(m *api.Model) { m.Tick = -one }, "Gate 0": func(m *api.Model) { m.Gate = 0 }, "Rmin 0": func(m *api.Model) { m.Rmin = 0 }, "Rmin above R": func(m *api.Model) { m.Rmin = 6 },
		"too many rows": func(m *api.Model) { m.Rows = slices.Repeat(m.Rows[:1], api.MaxRows+1) }, "a sensor 0": func(m *api.Model) { m.Rows[0].Sensor = 0 }, "a sensor 17": func(m *api.Model) { m.Rows[1].Sensor = 17 }, "sensors falling": func(m *api.Model) { m.Rows[0].Sensor = 8 }, "H short": func(m *api.Model) { m.Rows[1].H = m.Rows[1].H[:1] }, "H too great": func(m *api.Model) { m.Rows[1].H[0] = part + 1 },
	} {
		m := chapter()
		m.Rows = []api.Row{{Sensor: 3, H: []int{one, 0}, R: 5}, {Sensor: 7, H: []int{0, one}, R: 5}}
		do(&m)
		l[name] = m
	}
	for _, n := range []int{7, 12, 13} {
		l[fmt.Sprint("still, N ", n)] = still(n)
	}
	return l
}

// misfit is a belief that does not fit the chapter's model, and why.
type misfit struct {
	b    api.Belief
	want api.Errno
}

// doNotFit are some of each cause, and of two causes those whose first one is to be told.
func doNotFit() map[string]misfit {
	l := map[string]misfit{"none": {api.Belief{}, api.ErrSize}}
	add := func(name string, want api.Errno, l2 ...func(b *api.Belief)) {
		b := chapterBelief()
		for _, do := range l2 {
			do(&b)
		}
		l[name] = misfit{b, want}
	}
	size := map[string]func(b *api.Belief){
		"no X": func(b *api.Belief) { b.X = nil }, "X short": func(b *api.Belief) { b.X = b.X[:1] }, "X long": func(b *api.Belief) { b.X = append(b.X, 0) },
		"no P": func(b *api.Belief) { b.P = nil }, "P short": func(b *api.Belief) { b.P = b.P[:3] }, "P long": func(b *api.Belief) { b.P = append(b.P, 0) }, "P of one": func(b *api.Belief) { b.P = b.P[:1] }, "P of three": func(b *api.Belief) { b.P = make([]int, 9) },
	}
	reach := map[string]func(b *api.Belief){
		"At -1": func(b *api.Belief) { b.At = -1 }, "At -2^63": func(b *api.Belief) { b.At = none }, "At too late": func(b *api.Belief) { b.At = late + 1 }, "At 2^63 - 1": func(b *api.Belief) { b.At = most },
		"Pass -1": func(b *api.Belief) { b.Pass = -1 }, "Pass too great": func(b *api.Belief) { b.Pass = many + 1 }, "Fail -1": func(b *api.Belief) { b.Fail = -1 }, "Fail too great": func(b *api.Belief) { b.Fail = many + 1 }, "Fail -2^63": func(b *api.Belief) { b.Fail = none },
	}
	form := map[string]func(b *api.Belief){
		"P not symmetric": func(b *api.Belief) { b.P[1]++ }, "P below 0": func(b *api.Belief) { b.P[0] = -1 }, "P's last one below 0": func(b *api.Belief) { b.P[3] = -one }, "P's diagonal -2^63": func(b *api.Belief) { b.P[3] = none },
		"P -2^63": func(b *api.Belief) { b.P[1], b.P[2] = none, none }, "X -2^63": func(b *api.Belief) { b.X[1] = none }, "X -2^63 at first": func(b *api.Belief) { b.X[0] = none },
	}
	for name, do := range size {
		add(name, api.ErrSize, do)
		for name2, do2 := range reach {
			add(name2+", "+name, api.ErrSize, do2, do)
		}
		for name2, do2 := range form {
			add(name2+", "+name, api.ErrSize, do2, do)
		}
	}
	for name, do := range reach {
		add(name, api.ErrRange, do)
		for name2, do2 := range form {
			add(name2+", "+name, api.ErrRange, do2, do)
		}
	}
	for name, do := range form {
		add(name, api.ErrForm, do)
	}
	return l
}

// noMatrices are none, or not square.
func noMatrices() []api.Mat {
	l := []api.Mat{{}, {V: []int{1}}, {R: 1, C: 1}, {R: 1, V: []int{1}}, {C: 1, V: []int{1}}, {R: 2}, {C: 2}, {R: 1, C: 1, V: []int{1, 2}}, {R: 2, C: 2, V: []int{1, 2, 3}}, {R: 2, C: 2, V: []int{1, 2, 3, 4, 5}}, {R: -1, C: -1, V: []int{1}}, {R: -2, C: -2, V: []int{1, 2, 3, 4}}, {R: -2, C: 2, V: []int{1, 2, 3, 4}}, {R: 1 << 32, C: 1 << 32}, {R: none, C: none}, {R: none, C: 2}, {R: 1 << 62, C: 4}, {R: most, C: most, V: []int{1}}}
	for _, n := range []int{13, 14, 20} {
		l = append(l, noughts(n))
	}
	for _, x := range [][2]int{{1, 2}, {2, 1}, {1, 12}, {12, 1}, {11, 12}, {12, 11}, {2, 3}, {3, 2}, {4, 9}, {9, 4}, {12, 13}, {13, 12}} {
		l = append(l, of(x[0], slices.Repeat([]int{-1}, x[0]*x[1])...))
	}
	return l
}

// times are some that a belief at the time is can't be told at.
func times(is int) []int {
	return []int{none, none + 1, -1 << 41, -late, -2, -1, is - 2, is - 1, late + 1, late + 2, 1 << 41, 1 << 62, most - 1, most}
}

// expect fails unless the call answers this of a new unit, and leaves its flag so.
func expect(t *testing.T, name string, do call, cut bool, want api.Belief) {
	t.Helper()
	u := unit.New()
	b, err := do(u)
	if err != api.OK || !same(b, want) || u.Cut() != cut {
		t.Errorf("%s: %v, %d, cut %v, not %v, %v", name, b, int(err), u.Cut(), want, cut)
	}
}

// refused fails unless the call is refused so, without an answer, and a unit is left as it was: neither its flag nor its count tells of it.
func refused(t *testing.T, name string, do call, want api.Errno) {
	t.Helper()
	for _, set := range []bool{false, true} {
		u := unit.New()
		u.Set(set)
		b, err := do(u)
		if err != want || !empty(b) {
			t.Errorf("%s: %v, %d, not %d", name, b, int(err), int(want))
		}
		if u.Cut() != set || u.Count() != 0 {
			t.Errorf("%s: it reckoned: cut %v, count %d", name, u.Cut(), u.Count())
		}
	}
}

// book reckons by fix itself, and keeps in mind what was cut, and how many operations there were.
type book struct {
	cut   bool
	count int
}

func (b *book) note(n int, cut bool) int {
	b.cut = b.cut || cut
	b.count++
	return n
}

// add and mul are of two numbers, from 0 and One on, as a unit's are.
func (b *book) add(x, y int) int { return b.note(fix.Add(b.note(fix.Add(0, x)), y)) }
func (b *book) mul(x, y int) int { return b.note(fix.Mul(b.note(fix.Mul(one, x)), y)) }

// product is of two square matrices: each entry from 0 on, pair by pair.
func (b *book) product(x, y api.Mat) api.Mat {
	made := noughts(x.R)
	for k := range made.V {
		for j := range x.R {
			made.V[k] = b.note(fix.Add(made.V[k], b.note(fix.Mul(x.V[k/x.R*x.R+j], y.V[j*x.R+k%x.R]))))
		}
	}
	return made
}

// sum is of two matrices, entry by entry.
func (b *book) sum(x, y api.Mat) api.Mat {
	made := noughts(x.R)
	for k := range made.V {
		made.V[k] = b.add(x.V[k], y.V[k])
	}
	return made
}

// share is each entry divided by a whole number.
func (b *book) share(x api.Mat, n int) api.Mat {
	made := noughts(x.R)
	for k := range made.V {
		made.V[k] = b.note(fix.Div(x.V[k], b.note(fix.Whole(n))))
	}
	return made
}

// at is a polynomial's value, by chapter 9's words: of each place by itself, since none hangs on another.
func (b *book) at(l []api.Mat, s int) api.Mat {
	made := noughts(l[0].R)
	for k := range made.V {
		x := l[len(l)-1].V[k]
		for m := len(l) - 2; m >= 0; m-- {
			x = b.add(b.mul(x, s), l[m].V[k])
		}
		made.V[k] = x
	}
	return made
}

// span, flow and noise are by chapter 11's words.
func (b *book) span(m api.Model, ticks int) int { return b.mul(b.note(fix.Whole(ticks)), m.Tick) }

func (b *book) flow(m api.Model, ticks int) api.Mat {
	l := []api.Mat{diag(slices.Repeat([]int{one}, m.N)...)}
	for k := 1; k < m.N; k++ {
		l = append(l, b.share(b.product(l[k-1], of(m.N, m.A...)), k))
	}
	return b.at(l, b.span(m, ticks))
}

func (b *book) noise(m api.Model, ticks int) api.Mat {
	s := b.span(m, ticks)
	l := []api.Mat{diag(m.Q...)}
	for k := 2; k <= 2*m.N-1; k++ {
		x := b.product(of(m.N, m.A...), l[k-2])
		l = append(l, b.share(b.sum(x, turn(x)), k))
	}
	made := b.at(l, s)
	for k, x := range made.V {
		made.V[k] = b.mul(x, s)
	}
	return made
}

// later is a belief at a later time, by the promise's words: F, Q, X, the sandwich made even, the sum, what is held of it.
func (b *book) later(m api.Model, was api.Belief, at int) api.Belief {
	f, q := b.flow(m, at-was.At), b.noise(m, at-was.At)
	x := make([]int, m.N)
	for k, n := range f.V {
		x[k/m.N] = b.note(fix.Add(x[k/m.N], b.note(fix.Mul(n, was.X[k%m.N]))))
	}
	p := b.product(b.product(f, of(m.N, was.P...)), turn(f))
	for i := range m.N {
		for k := i + 1; k < m.N; k++ {
			h := b.note(fix.Half(p.V[i*m.N+k], p.V[k*m.N+i]))
			p.V[i*m.N+k], p.V[k*m.N+i] = h, h
		}
	}
	p = b.sum(p, q)
	for i := 0; i < len(p.V); i += m.N + 1 {
		b.cut = b.cut || p.V[i] < 0
		p.V[i] = max(p.V[i], 0)
	}
	return api.Belief{At: at, X: x, P: p.V, Flag: was.Flag || b.cut, Pass: was.Pass, Fail: was.Fail}
}

// drawn is a model of n numbers that may be, by chance: of whole numbers, of small ones, or of any.
func drawn(r *rand.Rand, n int) api.Model {
	number := func() int { return r.IntN(part + 1) }
	switch r.IntN(4) {
	case 0:
		number = func() int { return r.IntN(17) * one }
	case 1:
		number = func() int { return r.IntN(one) }
	case 2:
		number = func() int { return []int{0, 0, 1, 2, 3, half, one - 1, one, one + 1, part - 1, part}[r.IntN(11)] }
	}
	m := full(n, []int{1, 2, 3, half, one - 1, one, 1 + r.IntN(one), 1 + r.IntN(1000)}[r.IntN(8)], 0, 0)
	for k := range m.A {
		if k%n > k/n {
			m.A[k] = number() * (1 - 2*r.IntN(2))
		}
	}
	for k := range m.Q {
		m.Q[k] = number()
	}
	return m
}

// believed is a belief that fits a model of n numbers, by chance: of small numbers, of some ones, or of any.
func believed(r *rand.Rand, n int) api.Belief {
	number := func() int { return r.IntN(most) }
	switch r.IntN(4) {
	case 0:
		number = func() int { return r.IntN(1000) }
	case 1:
		number = func() int { return r.IntN(100 * one) }
	case 2:
		number = func() int { return []int{0, 1, 2, 3, half, one - 1, one, one + 1, most - 1, most}[r.IntN(10)] }
	}
	sign := func() int { return 1 - 2*r.IntN(2) }
	b := flat(n, []int{0, 1, r.IntN(1000), r.IntN(late), late - 1, late}[r.IntN(6)], 0, 0)
	b.Flag, b.Pass, b.Fail = r.IntN(3) == 0, r.IntN(many+1), r.IntN(many+1)
	for k := range b.X {
		b.X[k] = number() * sign()
	}
	for k := range b.P {
		switch i, j := k/n, k%n; {
		case i == j:
			b.P[k] = number()
		case i < j:
			b.P[k] = number() * sign() / (1 + r.IntN(4))
			b.P[j*n+i] = b.P[k]
		}
	}
	return b
}

// behind is a time that a belief can be told at, behind its own, mostly soon; of the last time there is none.
func behind(r *rand.Rand, is int) int {
	if r.IntN(12) == 0 {
		return min(late, max(is+1, []int{late, late - 1, is + 1<<31 - 1, is + 1<<31, is + 1<<31 + 1}[r.IntN(5)]))
	}
	return min(late, is+1+r.IntN(1<<(1+r.IntN(14))))
}

func TestExamples(t *testing.T) {
	m, b := chapter(), chapterBelief()
	expect(t, "To(u, m, b, 4)", to(m, b, 4), false, api.Belief{At: 4, X: ones(3, 2), P: ones(4, 4, 4, 7), Pass: 4})
	expect(t, "To(u, m, b, 3)", to(m, b, 3), false, chapterBelief())
	refused(t, "To(u, m, b, 2)", to(m, b, 2), api.ErrRange)
	if b, err := predict.To(nil, m, b, 4); err != api.ErrNil || !empty(b) {
		t.Error("To(none, m, b, 4):", b, err)
	}
	refused(t, "To(u, m, b of one number, 4)", to(m, flat(1, 3, one, one), 4), api.ErrSize)
	expect(t, "Held(u, -1 2 2 3)", held(of(2, -1, 2, 2, 3)), true, api.Belief{X: []int{2, 2}, P: []int{0, 2, 2, 3}})
	refused(t, "Held(u, 1 2) of one row", held(of(1, 1, 2)), api.ErrSize)
}

func TestNoUnit(t *testing.T) { // P12.1, P12.2, Rule 5: ahead of all else
	calls := map[string]call{"Held": held(of(2, -1, 2, 2, 3)), "To": to(chapter(), chapterBelief(), 4), "To, no model": to(api.Model{}, api.Belief{}, -1)}
	for _, at := range append(times(3), 0, 3, 4, late) {
		calls[fmt.Sprint("To ", at)] = to(chapter(), chapterBelief(), at)
	}
	for name, m := range mayNotBe() {
		calls["To, "+name] = to(m, chapterBelief(), 4)
	}
	for name, x := range doNotFit() {
		calls["To, "+name] = to(chapter(), x.b, 4)
	}
	for k, p := range noMatrices() {
		calls[fmt.Sprint("Held ", k)] = held(p)
	}
	for name, do := range calls {
		for _, u := range []*unit.Unit{nil, {}, new(unit.Unit)} {
			if b, err := do(u); err != api.ErrNil || !empty(b) {
				t.Errorf("%s: %v, %d", name, b, int(err))
			}
			if u != nil && (u.Cut() || u.Count() != 0) {
				t.Errorf("%s: it reckoned", name)
			}
		}
	}
}

func TestHeldSizes(t *testing.T) { // P12.1
	for _, p := range noMatrices() {
		refused(t, fmt.Sprint("Held of ", p), held(p), api.ErrSize)
	}
	for n := 1; n <= api.MaxDim; n++ {
		l := slices.Repeat([]int{3}, n*n)
		expect(t, fmt.Sprint("Held of ", n), held(of(n, l...)), false, api.Belief{X: []int{n, n}, P: l})
	}
}

func TestHeld(t *testing.T) { // P12.1
	for _, x := range []struct {
		p, want []int
		set     bool
	}{
		{[]int{0}, []int{0}, false}, {[]int{1}, []int{1}, false}, {[]int{most}, []int{most}, false}, {[]int{-1}, []int{0}, true}, {[]int{-2}, []int{0}, true}, {[]int{-one}, []int{0}, true}, {[]int{-most}, []int{0}, true}, {[]int{none}, []int{0}, true},
		{[]int{0, 0, 0, 0}, []int{0, 0, 0, 0}, false}, {[]int{1, -2, -2, 3}, []int{1, -2, -2, 3}, false}, {[]int{0, -1, -1, 0}, []int{0, -1, -1, 0}, false}, {[]int{5, none, none, 5}, []int{5, none, none, 5}, false}, {[]int{5, -most, 7, 0}, []int{5, -most, 7, 0}, false},
		{[]int{-1, -2, -3, 4}, []int{0, -2, -3, 4}, true}, {[]int{4, -2, -3, -1}, []int{4, -2, -3, 0}, true}, {[]int{-1, 5, 6, -7}, []int{0, 5, 6, 0}, true}, {[]int{none, none, none, none}, []int{0, none, none, 0}, true}, {[]int{-1, most, most, none}, []int{0, most, most, 0}, true},
		{[]int{1, -1, -1, -1, 1, -1, -1, -1, 1}, []int{1, -1, -1, -1, 1, -1, -1, -1, 1}, false}, {[]int{1, -1, -1, -1, -1, -1, -1, -1, 1}, []int{1, -1, -1, -1, 0, -1, -1, -1, 1}, true},
	} {
		n := int(math.Sqrt(float64(len(x.p))))
		want := api.Belief{X: []int{n, n}, P: x.want}
		expect(t, fmt.Sprint("Held of ", x.p), held(of(n, x.p...)), x.set, want)
		u := unit.New()
		u.Set(true)
		if p, err := held(of(n, x.p...))(u); err != api.OK || !same(p, want) || !u.Cut() || u.Count() != 0 {
			t.Errorf("Held of %v: %v, %d, cut %v, %d operations", x.p, p, int(err), u.Cut(), u.Count())
		}
	}
	for n := 1; n <= api.MaxDim; n++ {
		for i := range n { // one place alone, of all that are below 0
			p := of(n, slices.Repeat([]int{-5}, n*n)...)
			for k := range n {
				p.V[k*n+k] = k
			}
			want := api.Belief{X: []int{n, n}, P: slices.Clone(p.V)}
			p.V[i*n+i], want.P[i*n+i] = none, 0
			expect(t, fmt.Sprint("Held of ", p), held(p), true, want)
		}
	}
}

func TestHeldAsBelow(t *testing.T) { // P12.1: place by place, no operation, and what is held is held as it is
	r := rand.New(rand.NewPCG(121, 122))
	sets := map[bool]int{}
	for round := range 3000 {
		n := 1 + round%api.MaxDim
		p, want, set := noughts(n), noughts(n), false
		least := -r.IntN(3)
		for k := range p.V {
			p.V[k] = r.IntN(9) - 4
			if k%(n+1) == 0 {
				p.V[k] = r.IntN(20) + least
				set = set || p.V[k] < 0
			}
			want.V[k] = p.V[k]
			if k%(n+1) == 0 && p.V[k] < 0 {
				want.V[k] = 0
			}
		}
		u := unit.New()
		got, err := predict.Held(u, p)
		if err != api.OK || got.R != n || got.C != n || !slices.Equal(got.V, want.V) || u.Cut() != set || u.Count() != 0 {
			t.Fatalf("Held of %v: %v, %d, set %v, %d operations", p, got, int(err), u.Cut(), u.Count())
		}
		u.Clear()
		if again, err := predict.Held(u, got); err != api.OK || !slices.Equal(again.V, want.V) || u.Cut() {
			t.Fatalf("Held of %v again: %v, %d, set %v", got, again, int(err), u.Cut())
		}
		sets[set]++
	}
	if sets[true] < 500 || sets[false] < 500 {
		t.Error("too few are set, or not set:", sets)
	}
}

func TestModelsThatMayNotBe(t *testing.T) { // P12.2: ErrArg, ahead of what is wrong with the belief, or the time
	misfits := doNotFit()
	for name, m := range mayNotBe() {
		for _, at := range append(times(3), 0, 3, 4, late) {
			refused(t, fmt.Sprint(name, ", ", at), to(m, chapterBelief(), at), api.ErrArg)
		}
		for name2, x := range misfits {
			refused(t, name+", "+name2, to(m, x.b, 4), api.ErrArg)
		}
		refused(t, name+", a belief as long", to(m, flat(max(0, min(m.N, 20)), 3, one, one), 4), api.ErrArg)
	}
}

func TestBeliefsThatDoNotFit(t *testing.T) { // P12.2: model.Fits' error, ahead of what is wrong with the time
	m := chapter()
	m.Rows = []api.Row{{Sensor: 3, H: []int{one, 0}, R: 5}}
	for name, x := range doNotFit() {
		if err := model.Fits(m, x.b); err != x.want {
			t.Errorf("%s: model.Fits tells %d, not %d", name, int(err), int(x.want))
		}
		for _, at := range append(times(3), x.b.At, 0, 3, 4, late) {
			refused(t, fmt.Sprint(name, ", ", at), to(m, x.b, at), x.want)
		}
	}
	for n := 1; n <= dim; n++ {
		for k := 1; k <= dim+1; k++ {
			if k != n {
				refused(t, fmt.Sprint("a belief of ", k, ", a model of ", n), to(full(n, one, one, one), flat(k, 3, one, one), 4), api.ErrSize)
			}
		}
	}
}

func TestTimes(t *testing.T) { // P12.2
	for n := 1; n <= dim; n++ {
		m := full(n, one, one, one)
		for _, is := range []int{0, 1, 2, 3, 1000, 1 << 31, late - 1, late} {
			b := flat(n, is, one, one)
			for _, at := range times(is) {
				if at < is || at > late {
					refused(t, fmt.Sprint("of ", n, " from ", is, " to ", at), to(m, b, at), api.ErrRange)
				}
			}
			for _, at := range []int{is, is + 1, is + 2, late - 1, late} {
				if at < is || at > late {
					continue
				}
				if b, err := predict.To(unit.New(), m, b, at); err != api.OK || b.At != at || len(b.X) != n || len(b.P) != n*n {
					t.Errorf("of %d from %d to %d: %v, %d", n, is, at, b, int(err))
				}
			}
		}
	}
}

func TestOwnTime(t *testing.T) { // P12.2: as it is, without an operation, whatever the unit's flag
	r := rand.New(rand.NewPCG(123, 124))
	for round := range 2000 {
		n := 1 + round%dim
		m, b, u := drawn(r, n), believed(r, n), unit.New()
		set := r.IntN(2) == 0
		u.Set(set)
		got, err := predict.To(u, m, b, b.At)
		if err != api.OK || !same(got, b) || u.Cut() != set || u.Count() != 0 {
			t.Fatalf("of %v, %v, set %v: %v, %d, cut %v, %d operations", m, b, set, got, int(err), u.Cut(), u.Count())
		}
	}
	for _, at := range []int{0, 1, 7, late - 1, late} {
		for _, flag := range []bool{false, true} {
			for _, set := range []bool{false, true} {
				b, u := flat(6, at, -most, most), unit.New()
				b.Flag, b.Pass, b.Fail = flag, many, many
				b.P[1], b.P[6] = -most, -most
				u.Set(set)
				if got, err := predict.To(u, full(6, one, part, part), b, at); err != api.OK || !same(got, b) || u.Cut() != set || u.Count() != 0 {
					t.Errorf("at %d, flags %v, %v: %v, %d", at, flag, set, got, int(err))
				}
			}
		}
	}
}

func TestOneNumber(t *testing.T) { // P12.2: it stays as it is, and its covariance gains its noise
	for _, x := range []struct {
		q, tick, ticks, x, p, want int
		cut                        bool
	}{
		{one, one, 1, 5, one, 2 * one, false}, {3 * one, one, 4, -5, one, 13 * one, false}, {0, one, 9, 7, 8, 8, false}, {0, one, 1, 0, 0, 0, false}, {part, one, 1, most, 0, part, false}, {1, 1, 1, -most, 5, 5, false}, {one, 3, 2, 1, 4, 10, false},
		{1, half, 1, 1, 5, 5, false}, {1, half, 3, 1, 5, 7, false}, {3, half, 1, 1, 5, 7, false}, {5, half, 1, 1, 5, 7, false}, {7, half, 1, 1, 5, 9, false}, // halves to the even one
		{one, one, 1, 1, most - one, most, false}, {one, one, 1, 1, most - one + 1, most, true}, {1, one, 1, 1, most, most, true}, {0, one, 1, 1, most, most, false}, // cut by the sum
		{part, one, 1<<27 - 1, 1, 0, 1<<63 - part, false}, {part, one, 1 << 27, 1, 0, most, true}, {0, one, 1<<31 - 1, 3, 4, 4, false}, {0, one, 1 << 31, 3, 4, 4, true}, {one, one, late, 3, 4, most, true}, {one, 1, late, 3, 4, 1<<31 + 4, true}, // cut ahead of that
	} {
		for _, is := range []int{0, 5, late - x.ticks} {
			if is < 0 || is+x.ticks > late {
				continue
			}
			b := api.Belief{At: is, X: []int{x.x}, P: []int{x.p}, Pass: 2, Fail: 3}
			expect(t, fmt.Sprint("of one number: ", x, is), to(full(1, x.tick, 0, x.q), b, is+x.ticks), x.cut, api.Belief{At: is + x.ticks, X: []int{x.x}, P: []int{x.want}, Flag: x.cut, Pass: 2, Fail: 3})
		}
	}
}

func TestTwoNumbers(t *testing.T) { // P12.2
	for _, x := range []struct {
		name  string
		m     api.Model
		ticks int
		x, p  []int
		wantX []int
		wantP []int
		cut   bool
	}{
		{"two seconds", two(one, one, 0, 6*one), 2, ones(5, -3), ones(4, 1, 1, 9), ones(-1, -3), ones(60, 31, 31, 21), false},
		{"both gain noise", two(one, one, 7*one, 6*one), 2, ones(5, -3), ones(4, 1, 1, 9), ones(-1, -3), ones(74, 31, 31, 21), false},
		{"two seconds, by halves", two(half, one, 0, 6*one), 4, ones(5, -3), ones(4, 1, 1, 9), ones(-1, -3), ones(60, 31, 31, 21), false},
		{"backwards", two(one, -one, 0, 0), 3, ones(5, -3), ones(4, 1, 1, 9), ones(14, -3), ones(79, -26, -26, 9), false},
		{"a covariance below 0 is held", two(one, -one, 0, 0), 3, ones(0, 0), ones(2, 5, 5, 1), ones(0, 0), ones(0, 2, 2, 1), true},                                         // 2 - 30 + 9
		{"a covariance below 0 by one part", two(one, -one, 0, 0), 1, ones(0, 0), []int{0, half + 1, half + 1, one + 1}, ones(0, 0), []int{0, -half, -half, one + 1}, true}, // One + 1 less twice One / 2 + 1
		{"a covariance of 0", two(one, -one, 0, 0), 1, ones(0, 0), []int{1, half + 1, half + 1, one + 1}, ones(0, 0), []int{0, -half, -half, one + 1}, false},
		{"what gains noise is not held ahead of that", two(one, -one, 7*one, 0), 3, ones(0, 0), ones(2, 5, 5, 1), ones(0, 0), ones(2, 2, 2, 1), false},
		{"what gains too little noise is held", two(one, -one, 6*one, 0), 3, ones(0, 0), ones(2, 5, 5, 1), ones(0, 0), ones(0, 2, 2, 1), true},
		{"halves to the even one", two(half, one, 0, 0), 1, []int{5, 1}, []int{0, 1, 1, 0}, []int{5, 1}, []int{0, 1, 1, 0}, false},     // half of 1 is 0
		{"halves to the even one, up", two(half, one, 0, 0), 1, []int{5, 3}, []int{0, 3, 3, 0}, []int{7, 3}, []int{4, 3, 3, 0}, false}, // half of 3 is 2, from both sides
		{"halves of what is below 0", two(half, one, 0, 0), 1, []int{5, -3}, []int{9, -3, -3, 0}, []int{3, -3}, []int{5, -3, -3, 0}, false},
		{"each product to the nearest part", two(half, one, 0, 0), 1, []int{0, 0}, []int{0, 0, 0, 3}, []int{0, 0}, []int{1, 2, 2, 3}, false}, // half of 3 is 2, half of that 1
		{"cut in the state alone", two(one, one, 0, 0), 1, []int{most, 1}, []int{0, 0, 0, 0}, []int{most, 1}, []int{0, 0, 0, 0}, true},
		{"cut in the state, below 0", two(one, one, 0, 0), 1, []int{-most, -1}, []int{0, 0, 0, 0}, []int{-most, -1}, []int{0, 0, 0, 0}, true},
		{"all but cut in the state", two(one, one, 0, 0), 1, []int{most - 1, 1}, []int{0, 0, 0, 0}, []int{most, 1}, []int{0, 0, 0, 0}, false},
		{"cut in a product of the state", two(one, 2*one, 0, 0), 1, []int{-most, most}, []int{0, 0, 0, 0}, []int{0, most}, []int{0, 0, 0, 0}, true}, // -most and most: cut ahead of the sum
		{"cut in the first product of the covariance", two(one, one, 0, 0), 1, ones(0, 0), []int{most, -one, -one, one}, ones(0, 0), []int{most - one, 0, 0, one}, false},
		{"cut in the first product, and taken back", two(one, one, 0, 0), 1, ones(0, 0), []int{most, 1, 1, 0}, ones(0, 0), []int{most, 1, 1, 0}, true},
		{"cut in the sum alone", two(one, 0, one, 0), 1, ones(0, 0), []int{most, 0, 0, 0}, ones(0, 0), []int{most, 0, 0, 0}, true},
		{"cut in the noise alone", two(one, 0, part, 0), 1 << 27, ones(0, 0), []int{0, 0, 0, 0}, ones(0, 0), []int{most, 0, 0, 0}, true},
		{"cut in the flow alone", two(one, part, 0, 0), 1 << 27, ones(7, 0), []int{4, 0, 0, 0}, ones(7, 0), []int{4, 0, 0, 0}, true},
		{"cut in the span alone", two(1, 0, 0, 0), 1 << 31, ones(7, 8), ones(4, 1, 1, 9), ones(7, 8), ones(4, 1, 1, 9), true},
		{"a number beside the diagonal stays below 0", two(one, 0, 0, 0), 5, ones(0, 0), ones(4, -9, -9, 4), ones(0, 0), ones(4, -9, -9, 4), false},
	} {
		b := api.Belief{At: 11, X: x.x, P: x.p, Pass: 5, Fail: 6}
		expect(t, x.name, to(x.m, b, 11+x.ticks), x.cut, api.Belief{At: 11 + x.ticks, X: x.wantX, P: x.wantP, Flag: x.cut, Pass: 5, Fail: 6})
	}
}

func TestSixNumbers(t *testing.T) { // P12.2
	m := chain(6, one)
	b := flat(6, 3, 0, 0)
	b.X[5] = one
	last := []int{35791394, 178956971, 715827883, half, one, one} // what One is there, divided by 3, 4 and 5 one behind the other, each to the nearest part
	expect(t, "the last one alone", to(m, b, 4), false, api.Belief{At: 4, X: last, P: make([]int, 36)})
	b.X[5], b.P[35] = 0, one
	want := flat(6, 4, 0, 0)
	want.P = []int{
		298262, 1491308, 5965232, 17895697, 35791394, 35791394,
		1491308, 7456540, 29826162, 89478486, 178956971, 178956971,
		5965232, 29826162, 119304647, 357913942, 715827883, 715827883,
		17895697, 89478486, 357913942, half / 2, half, half,
		35791394, 178956971, 715827883, half, one, one,
		35791394, 178956971, 715827883, half, one, one,
	} // the products of all two of those: 178956971 by a half is to the even one, 715827883 by a half too
	expect(t, "the last one's covariance alone", to(m, b, 4), false, want)
	for _, ticks := range []int{1, 5, 1<<31 - 1, 1 << 31, late - 3} {
		cut := ticks >= 1<<31
		b := flat(6, 3, -7*one, 3)
		b.P[1], b.P[6], b.Pass = -most, -most, 9
		want := beliefCopy(b)
		want.At, want.Flag = 3+ticks, cut
		expect(t, fmt.Sprint("what does not move, for ", ticks), to(still(6), b, 3+ticks), cut, want)
	}
	cut := flat(6, 0, one, one)
	got, err := predict.To(unit.New(), full(6, one, part, part), cut, 1<<20)
	if err != api.OK || !got.Flag || slices.Contains(got.P, none) || got.P[0] != most || got.X[0] != most {
		t.Error("all cut:", got, err)
	}
}

func TestAsBelow(t *testing.T) { // P12.2: place by place by fix's own operations, no more and no fewer, cut or not
	r := rand.New(rand.NewPCG(125, 126))
	cuts := map[string]int{}
	for round := range 9000 {
		n := 1 + round%dim
		m, was, u := drawn(r, n), believed(r, n), unit.New()
		at := behind(r, was.At)
		if at == was.At {
			continue
		}
		var b book
		want := b.later(m, was, at)
		got, err := predict.To(u, m, was, at)
		if err != api.OK || !same(got, want) || u.Cut() != b.cut || u.Count() != b.count {
			t.Fatalf("To of %v, %v, %d: %v, %d, cut %v, %d operations, not %v, %v", m, was, at, got, int(err), u.Cut(), u.Count(), want, b)
		}
		cuts[fmt.Sprint(n == 1, b.cut)]++
	}
	for _, name := range []string{"true true", "true false", "false true", "false false"} {
		if cuts[name] < 100 {
			t.Error("too few are cut, or not cut:", cuts)
		}
	}
}

func TestFlags(t *testing.T) { // P12.2: set, if it was, or the unit's flag is set then; never cleared
	fine, cut := two(one, one, 0, 6*one), two(one, part, 0, part)
	for _, was := range []bool{false, true} {
		for _, set := range []bool{false, true} {
			for _, x := range []struct {
				m   api.Model
				at  int
				cut bool
			}{{fine, 3, false}, {cut, 3, false}, {fine, 4, false}, {fine, 100, false}, {cut, 4, false}, {cut, late, true}, {fine, 3 + 1<<31, true}} {
				b, u := chapterBelief(), unit.New()
				b.Flag = was
				u.Set(set)
				got, err := predict.To(u, x.m, b, x.at)
				want := was || x.at > 3 && (set || x.cut)
				if err != api.OK || got.Flag != want || u.Cut() != (set || x.cut) {
					t.Errorf("was %v, set %v, at %d: %v, %d, cut %v, not %v", was, set, x.at, got.Flag, int(err), u.Cut(), want)
				}
			}
		}
	}
	u := unit.New() // what was cut for one belief is told of each that comes behind it, till the flag is cleared
	for k, x := range []struct {
		at   int
		want bool
	}{{4, false}, {3 + 1<<31, true}, {4, true}, {3, false}, {5, true}} {
		if got, err := predict.To(u, fine, chapterBelief(), x.at); err != api.OK || got.Flag != x.want {
			t.Errorf("call %d: %v, %d", k, got, int(err))
		}
	}
	u.Clear()
	if got, err := predict.To(u, fine, chapterBelief(), 4); err != api.OK || got.Flag || u.Cut() {
		t.Error("behind a flag that was cleared:", got, err)
	}
	if got, _ := predict.To(u, two(one, -one, 0, 0), api.Belief{X: ones(0, 0), P: ones(2, 5, 5, 1)}, 3); !got.Flag || !u.Cut() {
		t.Error("what is held sets both flags:", got)
	}
}

func TestCounts(t *testing.T) { // P12.2: as they were
	for _, pass := range []int{0, 1, 77, many - 1, many} {
		for _, fail := range []int{0, 1, 78, many - 1, many} {
			for _, at := range []int{3, 4, 50, late} {
				b := chapterBelief()
				b.Pass, b.Fail = pass, fail
				if got, err := predict.To(unit.New(), chapter(), b, at); err != api.OK || got.Pass != pass || got.Fail != fail || got.At != at {
					t.Errorf("of %d, %d at %d: %v, %d", pass, fail, at, got, int(err))
				}
			}
		}
	}
}

func TestWhatIsToldFits(t *testing.T) { // P12.3: cut or not
	r := rand.New(rand.NewPCG(127, 128))
	cuts, helds := map[bool]int{}, 0
	for round := range 6000 {
		n := 1 + round%dim
		m, b := drawn(r, n), believed(r, n)
		if r.IntN(4) == 0 {
			m.A, b.X, b.P = full(n, 1, part*(1-2*r.IntN(2)), 0).A, flat(n, 0, most, most).X, flat(n, 0, most, most).P
		}
		for range 3 { // what is told is what the next one is told of
			at := behind(r, b.At)
			u := unit.New()
			got, err := predict.To(u, m, b, at)
			if err != api.OK || model.Fits(m, got) != api.OK || got.At != at {
				t.Fatalf("To of %v, %v, %d: %v, %d", m, b, at, got, int(err))
			}
			if u.Cut() && slices.Contains(got.P, 0) {
				helds++
			}
			cuts[u.Cut()]++
			b = got
		}
	}
	if cuts[true] < 1000 || cuts[false] < 1000 || helds < 100 {
		t.Error("too few are cut, not cut, or held:", cuts, helds)
	}
}

// littlePair are a model of small whole numbers, whose noise is divisible by six, and a belief of small whole numbers, whose covariance is one.
func littlePair(r *rand.Rand, n int) (api.Model, api.Belief) {
	m, b := full(n, one, (r.IntN(9)-4)*one, 0), flat(n, r.IntN(1000), 0, 0)
	for k := range n {
		m.Q[k], b.X[k] = 6*r.IntN(3)*one, (r.IntN(201)-100)*one
	}
	x, y, z := r.IntN(5)-2, r.IntN(5)-2, r.IntN(3)
	b.P = ones(x*x+y*y, y*z, y*z, z*z)
	if n == 1 {
		b.P = b.P[:1]
	}
	b.Pass, b.Fail = r.IntN(9), r.IntN(9)
	return m, b
}

func TestTwoPredictions(t *testing.T) { // P12.3: two predictions one behind the other are one
	r := rand.New(rand.NewPCG(129, 130))
	for round := range 6000 {
		m, b := littlePair(r, 1+round%2)
		by := 1
		if r.IntN(3) == 0 { // whole spans of ticks that are not whole
			by = 1 << r.IntN(5)
			m.Tick = one / by
		}
		s, s2 := r.IntN(30)*by, r.IntN(30)*by
		u := unit.New()
		first, err := predict.To(u, m, b, b.At+s)
		second, err2 := predict.To(u, m, first, b.At+s+s2)
		both, err3 := predict.To(u, m, b, b.At+s+s2)
		if err != api.OK || err2 != api.OK || err3 != api.OK || u.Cut() || second.Flag {
			t.Fatalf("of %v, %v, %d and %d: %d, %d, %d, cut %v", m, b, s, s2, int(err), int(err2), int(err3), u.Cut())
		}
		if !same(second, both) {
			t.Fatalf("of %v, %v, %d and %d: %v, not %v", m, b, s, s2, second, both)
		}
		if b.At += 1<<33 + round; b.At+s > late { // when it is does not matter, how long it is does
			t.Fatal("too late")
		}
		if moved, _ := predict.To(u, m, b, b.At+s); !slices.Equal(moved.X, first.X) || !slices.Equal(moved.P, first.P) || moved.Flag {
			t.Fatalf("of %v, %v, %d: %v, not %v", m, b, s, moved, first)
		}
	}
}

func TestUnitsAlike(t *testing.T) { // P12.2: what is told does not hang on what a unit did, and costs as many operations again
	m, b := full(3, half+1, 3*half, 5), flat(3, 2, 7*one+1, 5)
	u := unit.New()
	first, _ := predict.To(u, m, b, 9)
	count := u.Count()
	second, err := predict.To(u, m, b, 9)
	if err != api.OK || !same(first, second) || u.Count() != 2*count || count == 0 {
		t.Errorf("%v, then %v, %d, %d operations, then %d", first, second, int(err), count, u.Count())
	}
	u.Set(true)
	third, err := predict.To(u, m, b, 9)
	if first.Flag || !third.Flag || err != api.OK || !slices.Equal(first.X, third.X) || !slices.Equal(first.P, third.P) || u.Count() != 3*count {
		t.Errorf("%v, then %v, %d", first, third, int(err))
	}
}

// sameModel tells whether two models are the same in all that stands in them.
func sameModel(a, b api.Model) bool {
	return a.N == b.N && slices.Equal(a.A, b.A) && slices.Equal(a.Q, b.Q) && a.Tick == b.Tick && a.Gate == b.Gate && a.Rmin == b.Rmin && slices.EqualFunc(a.Rows, b.Rows, func(a, b api.Row) bool {
		return a.Sensor == b.Sensor && a.R == b.R && slices.Equal(a.H, b.H)
	})
}

// spoil writes over what was answered, and its spare room.
func spoil(b api.Belief) {
	for _, l := range [][]int{b.X, b.P} {
		l = l[:cap(l)]
		for i := range l {
			l[i] = 99
		}
	}
}

func TestWhatWasHandedInStays(t *testing.T) { // DOC.md's Rule 4, and its spare room
	for n := 1; n <= dim; n++ {
		m, b := full(n, half, -one, 3), flat(n, 5, -one, one)
		m.Rows = []api.Row{{Sensor: 2, H: slices.Repeat([]int{7}, n), R: 5}}
		room, ends := slices.Concat(b.X, b.P, m.A, m.Q, m.Rows[0].H, []int{none, most, 5}), 0
		next := func(l []int) []int { // each has what is behind it as its spare room
			l = room[ends : ends+len(l)]
			ends += len(l)
			return l
		}
		b.X, b.P, m.A, m.Q, m.Rows[0].H = next(b.X), next(b.P), next(m.A), next(m.Q), next(m.Rows[0].H)
		wasModel, wasBelief, wasRoom := modelCopy(m), beliefCopy(b), slices.Clone(room)
		for _, at := range []int{4, 5, 6, 9, late, late + 1} {
			answer, _ := predict.To(unit.New(), m, b, at)
			spoil(answer)
			if !sameModel(m, wasModel) || !same(b, wasBelief) || !slices.Equal(room, wasRoom) {
				t.Fatalf("of %d at %d: %v, %v, %v", n, at, m, b, room)
			}
		}
	}
	for _, x := range []int{-1, 0, 1} {
		room := []int{x, 2, 3, x, -4, -5}
		p := api.Mat{R: 2, C: 2, V: room[:4]}
		answer, _ := predict.Held(unit.New(), p)
		spoil(api.Belief{P: answer.V})
		if !slices.Equal(room, []int{x, 2, 3, x, -4, -5}) || p.R != 2 || p.C != 2 {
			t.Error("Held:", room)
		}
	}
}

func TestAnswersAreNew(t *testing.T) { // DOC.md's Rule 4: what is handed in is not looked at later, and no two answers, nor lists of one, share anything
	for n := 1; n <= dim; n++ {
		for _, at := range []int{5, 6, 50} {
			m, b, u := full(n, one, one, 3*one), flat(n, 5, one, one), unit.New()
			want := beliefCopy(b)
			if at > 5 {
				want = new(book).later(m, b, at)
			}
			got, _ := predict.To(u, m, b, at)
			again, _ := predict.To(u, m, b, at)
			spoil(again)
			spoil(b)
			spoil(api.Belief{X: m.A, P: m.Q})
			if !same(got, want) {
				t.Errorf("of %d at %d: %v, not %v", n, at, got, want)
			}
			spoil(api.Belief{X: got.X})
			if !slices.Equal(got.P, want.P) {
				t.Errorf("of %d at %d: both lists share numbers", n, at)
			}
		}
	}
	p := of(2, 1, 2, 2, 3)
	got, _ := predict.Held(unit.New(), p)
	again, _ := predict.Held(unit.New(), p)
	spoil(api.Belief{X: again.V, P: p.V})
	if !slices.Equal(got.V, []int{1, 2, 2, 3}) {
		t.Error("Held:", got)
	}
}
