package vec_test

import (
	"math"
	"math/rand/v2"
	"slices"
	"testing"

	"binnacle/api"
	"binnacle/fix"
	"binnacle/unit"
	"binnacle/vec"
)

// The limits as ints, since tests negate and add to them.
const (
	one  = api.One
	most = api.MaxFix
	none = math.MinInt
)

// told is what a call answers and what it leaves of a new unit. A call that answers one number has a list of it.
type told struct {
	list  []int
	err   api.Errno
	cut   bool
	count int
}

// call is one of the functions, of a unit and what else it is handed.
type call func(u *unit.Unit) ([]int, api.Errno)

func sum(a, b []int) call {
	return func(u *unit.Unit) ([]int, api.Errno) { return vec.Sum(u, a, b) }
}

func less(a, b []int) call {
	return func(u *unit.Unit) ([]int, api.Errno) { return vec.Less(u, a, b) }
}

func scale(a []int, s int) call {
	return func(u *unit.Unit) ([]int, api.Errno) { return vec.Scale(u, a, s) }
}

func dot(a, b []int) call {
	return func(u *unit.Unit) ([]int, api.Errno) {
		n, err := vec.Dot(u, a, b)
		return []int{n}, err
	}
}

func farthest(a ...int) call {
	return func(u *unit.Unit) ([]int, api.Errno) {
		n, err := vec.Most(u, a)
		return []int{n}, err
	}
}

// expect fails unless the call answers what is wanted of a new unit, and leaves it so.
func expect(t *testing.T, name string, do call, want told) {
	t.Helper()
	u := unit.New()
	l, err := do(u)
	if !slices.Equal(l, want.list) || err != want.err || u.Cut() != want.cut || u.Count() != want.count {
		t.Errorf("%s: %d, %d, cut %v, count %d, not %+v", name, l, int(err), u.Cut(), u.Count(), want)
	}
}

// walk is what fix makes of pairs, from start on by the first number of a pair and then by the second one, and whether any of it was cut.
func walk(start int, f func(a, b int) (int, bool), a, b []int) ([]int, bool) {
	l, any := []int{}, false
	for k := range a {
		x, first := f(start, a[k])
		y, second := f(x, b[k])
		l, any = append(l, y), any || first || second
	}
	return l, any
}

// numbers are the edges of ints and of fixed numbers, and some between.
func numbers() []int {
	some := []int{
		none, none + 1, none + 2, -1 << 62, -3 * one, -one - 1, -one, -one / 2, -3, -2, -1, 0,
		1, 2, 3, 7, one / 2, one - 1, one, one + 1, 3 * one / 2, 2 * one, 4 * one, 1<<31 - 1, 1 << 31, 1 << 47, 1 << 48, 1 << 62, most / 2, most - 1, most,
	}
	r := rand.New(rand.NewPCG(21, 22))
	for range 30 {
		some = append(some, int(r.Uint64())>>r.IntN(64))
	}
	return some
}

// pairs are all pairs of numbers, as two lists.
func pairs() (a, b []int) {
	for _, x := range numbers() {
		for _, y := range numbers() {
			a, b = append(a, x), append(b, y)
		}
	}
	return a, b
}

// chance is a list of n numbers that are below 2^bits, on both sides of 0.
func chance(r *rand.Rand, n, bits int) []int {
	l := make([]int, n)
	for k := range l {
		l[k] = int(r.Uint64()) >> (63 - bits + r.IntN(bits))
	}
	return l
}

func TestExamples(t *testing.T) {
	a, b := []int{one, 2 * one}, []int{3 * one, -one}
	expect(t, "Sum", sum(a, b), told{list: []int{4 * one, one}, count: 4})
	expect(t, "Less", less(a, b), told{list: []int{-2 * one, 3 * one}, count: 2})
	expect(t, "Scale", scale([]int{one, 3}, one/2), told{list: []int{one / 2, 2}, count: 4})
	expect(t, "Dot", dot([]int{one}, []int{5 * one}), told{list: []int{5 * one}, count: 2})
	expect(t, "Most(3, -7, 5)", farthest(3, -7, 5), told{list: []int{7}, count: 1})
	expect(t, "Most(none)", farthest(), told{list: []int{0}})
	expect(t, "Sum(1; 1, 2)", sum([]int{1}, []int{1, 2}), told{err: api.ErrSize})
	if l, err := vec.Sum(nil, a, b); l != nil || err != api.ErrNil {
		t.Error("Sum of no unit:", l, err)
	}
}

func TestNoUnit(t *testing.T) { // Rule 5, ahead of ErrSize
	short, long := []int{none}, []int{1, most}
	for name, do := range map[string]call{
		"Sum": sum(short, short), "Sum of unlike ones": sum(short, long), "Sum of none": sum(nil, nil), "Sum of none and one": sum(nil, short),
		"Less": less(long, long), "Less of unlike ones": less(long, short), "Less of none": less(nil, nil),
		"Scale": scale(long, none), "Scale of none": scale(nil, 1),
	} {
		for _, u := range []*unit.Unit{nil, {}, new(unit.Unit)} {
			if l, err := do(u); len(l) != 0 || err != api.ErrNil {
				t.Errorf("%s: %d, %d", name, l, int(err))
			}
			if u != nil && (u.Cut() || u.Count() != 0) {
				t.Errorf("%s: it reckoned", name)
			}
		}
	}
	for name, do := range map[string]call{
		"Dot": dot(long, long), "Dot of unlike ones": dot(short, long), "Dot of none": dot(nil, nil),
		"Most": farthest(none, -1, most), "Most of none": farthest(),
	} {
		for _, u := range []*unit.Unit{nil, {}, new(unit.Unit)} {
			if l, err := do(u); l[0] != 0 || err != api.ErrNil {
				t.Errorf("%s: %d, %d", name, l, int(err))
			}
			if u != nil && (u.Cut() || u.Count() != 0) {
				t.Errorf("%s: it reckoned", name)
			}
		}
	}
}

func TestUnlikeLengths(t *testing.T) { // nothing is done: neither the count nor the flag tells of it
	lists := [][]int{nil, {none}, {most, most}, {none, none, none}, make([]int, 2, 9), make([]int, 0, 9)}
	for _, a := range lists {
		for _, b := range lists {
			if len(a) == len(b) {
				continue
			}
			expect(t, "Sum", sum(a, b), told{err: api.ErrSize})
			expect(t, "Less", less(a, b), told{err: api.ErrSize})
			expect(t, "Dot", dot(a, b), told{list: []int{0}, err: api.ErrSize})
		}
	}
	u := unit.New()
	u.Add(most, one)
	vec.Sum(u, []int{1}, nil)
	vec.Less(u, nil, []int{1})
	vec.Dot(u, []int{1}, []int{1, 2})
	if u.Count() != 2 || !u.Cut() {
		t.Error("a unit that reckoned ahead of it:", u.Count(), u.Cut())
	}
}

func TestNoNumbers(t *testing.T) { // P6.1, P6.2
	lists := [][]int{nil, {}, make([]int, 0, 5)}
	for _, a := range lists {
		for _, b := range lists {
			expect(t, "Sum", sum(a, b), told{})
			expect(t, "Less", less(a, b), told{})
			expect(t, "Dot", dot(a, b), told{list: []int{0}})
		}
		expect(t, "Scale", scale(a, none), told{})
		expect(t, "Most", farthest(a...), told{list: []int{0}})
	}
}

func TestSumAtTheEdges(t *testing.T) { // P6.1: from 0 on, so two operations a number
	for _, c := range []struct {
		a, b, want int
		cut        bool
	}{
		{most, 0, most, false},
		{most, 1, most, true},
		{most, -most, 0, false},
		{most, most, most, true},
		{-most, 0, -most, false},
		{-most, -1, -most, true},
		{-most, -most, -most, true},
		{most - one, one, most, false},
		{most - one, one + 1, most, true},
		{none, 0, -most, true},
		{0, none, -most, true},
		{none, most, 0, true},
		{most, none, 0, true},
		{none, none, -most, true},
		{none, one, one - most, true},
	} {
		expect(t, "Sum", sum([]int{c.a}, []int{c.b}), told{list: []int{c.want}, cut: c.cut, count: 2})
		expect(t, "Sum ahead of another", sum([]int{c.a, 1}, []int{c.b, 2}), told{list: []int{c.want, 3}, cut: c.cut, count: 4})
	}
}

func TestLessAtTheEdges(t *testing.T) { // P6.1
	for _, c := range []struct {
		a, b, want int
		cut        bool
	}{
		{most, 0, most, false},
		{most, -1, most, true},
		{most, most, 0, false},
		{most, -most, most, true},
		{0, most, -most, false},
		{-1, most, -most, true},
		{-most, 1, -most, true},
		{-most, -most, 0, false},
		{-most, most, -most, true},
		{none, 0, -most, true},
		{0, none, most, true},
		{none, none, 0, true},
		{none, -most, 0, true},
		{-one, none, most - one, true},
	} {
		expect(t, "Less", less([]int{c.a}, []int{c.b}), told{list: []int{c.want}, cut: c.cut, count: 1})
		expect(t, "Less ahead of another", less([]int{c.a, 1}, []int{c.b, 3}), told{list: []int{c.want, -2}, cut: c.cut, count: 2})
	}
}

func TestScaleAtTheEdges(t *testing.T) { // P6.1: from One on, so two operations a number
	for _, c := range []struct {
		a, s, want int
		cut        bool
	}{
		{most, one, most, false},
		{one, most, most, false},
		{most, -one, -most, false},
		{most, one + 1, most, true},
		{most, -one - 1, -most, true},
		{most, 0, 0, false},
		{most, one / 2, 1 << 62, false},
		{most, most, most, true},
		{-most, most, -most, true},
		{-most, -most, most, true},
		{none, one, -most, true},
		{one, none, -most, true},
		{none, 0, 0, true},
		{0, none, 0, true},
		{none, none, most, true},
		{3, one / 2, 2, false},
		{1, one / 2, 0, false},
		{-3, one / 2, -2, false},
		{5, one / 2, 2, false},
	} {
		expect(t, "Scale", scale([]int{c.a}, c.s), told{list: []int{c.want}, cut: c.cut, count: 2})
	}
	expect(t, "Scale of many", scale([]int{most, one, -one, 0, 3}, 2*one), told{list: []int{most, 2 * one, -2 * one, 0, 6}, cut: true, count: 10})
}

func TestListsAsBelow(t *testing.T) { // P6.1: each number by fix's own operations, in order
	a, b := pairs()
	for k := range a {
		x, y := a[k:k+1], b[k:k+1]
		l, cut := walk(0, fix.Add, x, y)
		expect(t, "Sum", sum(x, y), told{list: l, cut: cut, count: 2})
		n, cut := fix.Sub(a[k], b[k])
		expect(t, "Less", less(x, y), told{list: []int{n}, cut: cut, count: 1})
		l, cut = walk(one, fix.Mul, x, y)
		expect(t, "Scale", scale(x, b[k]), told{list: l, cut: cut, count: 2})
		if t.Failed() {
			t.Fatal("of", a[k], b[k])
		}
	}
	l, _ := walk(0, fix.Add, a, b)
	expect(t, "Sum of all", sum(a, b), told{list: l, cut: true, count: 2 * len(a)})
	l, _ = walk(one, fix.Mul, a, slices.Repeat([]int{one / 4}, len(a)))
	expect(t, "Scale of all", scale(a, one/4), told{list: l, cut: true, count: 2 * len(a)})
	for k := range a {
		l[k], _ = fix.Sub(a[k], b[k])
	}
	expect(t, "Less of all", less(a, b), told{list: l, cut: true, count: len(a)})
}

func TestDot(t *testing.T) { // P6.2
	expect(t, "Dot", dot([]int{one, 2 * one, -one}, []int{3 * one, one / 2, 7}), told{list: []int{4*one - 7}, count: 6})
	expect(t, "cut, and then less", dot([]int{most, one, -one}, []int{one, one, one}), told{list: []int{most - one}, cut: true, count: 6})
	expect(t, "a product that is cut", dot([]int{most, -one}, []int{2 * one, one}), told{list: []int{most - one}, cut: true, count: 4})
	expect(t, "-2^63", dot([]int{none}, []int{one}), told{list: []int{-most}, cut: true, count: 2})
	expect(t, "-2^63 by 0", dot([]int{0}, []int{none}), told{list: []int{0}, cut: true, count: 2})
	r := rand.New(rand.NewPCG(23, 24))
	for range 2000 {
		n := r.IntN(9)
		a, b := chance(r, n, 63), chance(r, n, 63)
		u := unit.New()
		want, err := u.Dot(a, b)
		expect(t, "as the unit's", dot(a, b), told{list: []int{want}, err: err, cut: u.Cut(), count: u.Count()})
	}
}

func TestMost(t *testing.T) { // P6.2: an operation of each number below 0, none of any other
	for _, c := range []struct {
		a     []int
		want  int
		cut   bool
		count int
	}{
		{[]int{0}, 0, false, 0},
		{[]int{0, 0}, 0, false, 0},
		{[]int{5}, 5, false, 0},
		{[]int{-5}, 5, false, 1},
		{[]int{-1, -2, -3}, 3, false, 3},
		{[]int{-3, -2, -1}, 3, false, 3},
		{[]int{-2, -9, -4}, 9, false, 3},
		{[]int{1, 9, 4}, 9, false, 0},
		{[]int{-7, 7}, 7, false, 1},
		{[]int{7, -8}, 8, false, 1},
		{[]int{9, -8}, 9, false, 1},
		{[]int{most}, most, false, 0},
		{[]int{-most}, most, false, 1},
		{[]int{-most, most}, most, false, 1},
		{[]int{1 - most, 3}, most - 1, false, 1},
		{[]int{none}, most, true, 1},
		{[]int{none, 1}, most, true, 1},
		{[]int{most, none}, most, true, 1},
		{[]int{1, none, none}, most, true, 2},
	} {
		expect(t, "Most", farthest(c.a...), told{list: []int{c.want}, cut: c.cut, count: c.count})
		if t.Failed() {
			t.Fatal("of", c.a)
		}
	}
}

func TestFlagStays(t *testing.T) { // what was cut ahead of it is kept in mind, and counts go on
	u := unit.New()
	calls := []struct {
		do    call
		cut   bool
		count int
	}{
		{sum([]int{1}, []int{2}), false, 2},
		{sum([]int{most, 1}, []int{1, 1}), true, 4},
		{less([]int{1}, []int{2}), true, 1},
		{scale([]int{1}, one), true, 2},
		{dot([]int{1}, []int{2}), true, 2},
		{farthest(-1, 1), true, 1},
	}
	count := 0
	for k, c := range calls {
		c.do(u)
		count += c.count
		if u.Cut() != c.cut || u.Count() != count {
			t.Errorf("call %d: %v, %d, not %v, %d", k, u.Cut(), u.Count(), c.cut, count)
		}
	}
	for k, do := range []call{less([]int{-most}, []int{1}), scale([]int{most}, 2*one), dot([]int{most}, []int{2 * one}), farthest(none)} {
		u.Clear()
		if do(u); !u.Cut() {
			t.Error("not cut:", k)
		}
	}
	u.Clear()
	if vec.Sum(u, []int{most}, []int{-1}); u.Cut() {
		t.Error("a flag that was cleared is set by what is not cut")
	}
}

func TestListsStayAsTheyWere(t *testing.T) { // DOC.md's Rule 4, and its spare room
	whole := []int{one, -one, none, most, 7, 8}
	was := slices.Clone(whole)
	a, b := whole[:2], whole[1:3]
	for name, do := range map[string]call{
		"Sum": sum(a, b), "Sum of one list": sum(a, a), "Less": less(a, b), "Less of one list": less(a, a), "Scale": scale(b, 2*one), "Dot": dot(a, b), "Most": farthest(whole...), "Sum of unlike ones": sum(a, whole),
	} {
		l, _ := do(unit.New())
		l = l[:cap(l)]
		for k := range l {
			l[k] = 99
		}
		if !slices.Equal(whole, was) {
			t.Fatalf("%s: %d", name, whole)
		}
	}
	first, _ := vec.Sum(unit.New(), []int{1, 2}, []int{3, 4})
	again, _ := vec.Sum(unit.New(), first, first)
	if !slices.Equal(first, []int{4, 6}) || !slices.Equal(again, []int{8, 12}) {
		t.Error("an answer is changed by another call:", first, again)
	}
}

func TestWhatWasAddedIsTakenAway(t *testing.T) { // P6.3
	r := rand.New(rand.NewPCG(25, 26))
	plain := 0
	for range 3000 {
		n := r.IntN(7)
		a, b := chance(r, n, 63), chance(r, n, 63)
		u := unit.New()
		l, _ := vec.Sum(u, a, b)
		m, _ := vec.Sum(u, b, a)
		if !slices.Equal(l, m) {
			t.Fatalf("Sum(%d; %d): %d and %d", a, b, l, m)
		}
		if u.Cut() {
			continue
		}
		plain++
		if back, _ := vec.Less(u, l, b); !slices.Equal(back, a) || u.Cut() {
			t.Fatalf("Less(%d; %d): %d, not %d", l, b, back, a)
		}
	}
	if plain < 1000 {
		t.Error("too few sums without a cut:", plain)
	}
}

func TestDotOfASum(t *testing.T) { // P6.3
	r := rand.New(rand.NewPCG(27, 28))
	plain := 0
	for range 5000 {
		n := r.IntN(7)
		a, b, c := chance(r, n, 44), chance(r, n, 44), chance(r, n, 44)
		u := unit.New()
		both, _ := vec.Sum(u, b, c)
		whole, _ := vec.Dot(u, a, both)
		first, _ := vec.Dot(u, a, b)
		second, _ := vec.Dot(u, a, c)
		off := u.Sub(whole, u.Add(first, second))
		if u.Cut() {
			continue
		}
		plain++
		if off < -2*n || off > 2*n {
			t.Fatalf("Dot(%d; %d, %d): off by %d", a, b, c, off)
		}
	}
	if plain < 1000 {
		t.Error("too few Dots without a cut:", plain)
	}
}

func TestNothingIsFartherThanMost(t *testing.T) { // P6.3
	r := rand.New(rand.NewPCG(29, 30))
	for range 3000 {
		a := chance(r, r.IntN(7), 1+r.IntN(62))
		u := unit.New()
		far, err := vec.Most(u, a)
		if far < 0 || err != api.OK || u.Cut() {
			t.Fatalf("Most(%d): %d, %d", a, far, int(err))
		}
		if len(a) != 0 && !slices.Contains(a, far) && !slices.Contains(a, -far) {
			t.Fatalf("Most(%d): %d, which is none of them", a, far)
		}
		for _, x := range a {
			if x > far || x < -far {
				t.Fatalf("Most(%d): %d", a, far)
			}
		}
	}
}
