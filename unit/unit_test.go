package unit_test

import (
	"math"
	"math/rand/v2"
	"slices"
	"testing"

	"binnacle/api"
	"binnacle/fix"
	"binnacle/root"
	"binnacle/unit"
)

// The limits as ints, since tests negate and add to them.
const (
	one  = api.One
	most = api.MaxFix
	none = math.MinInt
)

// expect fails unless the unit is as told behind what it answered.
func expect(t *testing.T, u *unit.Unit, name string, got, want int, cut bool, count int) {
	t.Helper()
	if got != want || u.Cut() != cut || u.Count() != count {
		t.Errorf("%s: %d, cut %v, count %d, not %d, %v, %d", name, got, u.Cut(), u.Count(), want, cut, count)
	}
}

// walk is what comes of start by a call of fix a number of l, and whether any of them cut.
func walk(start int, f func(a, b int) (int, bool), l []int) (int, bool) {
	any := false
	for _, x := range l {
		n, cut := f(start, x)
		start, any = n, any || cut
	}
	return start, any
}

// numbers are the edges of ints and of fixed numbers, and some between.
func numbers() []int {
	some := []int{
		none, none + 1, none + 2, -1 << 62, -3 * one, -one - 1, -one, -one / 2, -3, -2, -1, 0,
		1, 2, 3, 7, one / 2, one - 1, one, one + 1, 3 * one / 2, 2 * one, 4 * one, 1<<31 - 1, 1 << 31, 1 << 47, 1 << 48, 1 << 62, most / 2, most - 1, most,
	}
	r := rand.New(rand.NewPCG(9, 10))
	for range 30 {
		some = append(some, int(r.Uint64())>>r.IntN(64))
	}
	return some
}

func TestExamples(t *testing.T) {
	u := unit.New()
	expect(t, u, "Add()", u.Add(), 0, false, 0)
	expect(t, u, "Mul()", u.Mul(), one, false, 0)
	expect(t, u, "Add(One, One, One)", u.Add(one, one, one), 3*one, false, 3)
	expect(t, u, "Mul(One / 2, One / 2)", u.Mul(one/2, one/2), one/4, false, 5)
	n, err := u.Dot([]int{one, 2 * one}, []int{3 * one, one / 2})
	expect(t, u, "Dot", n, 4*one, false, 9)
	if err != api.OK {
		t.Error("Dot:", err)
	}
	n, err = u.Dot([]int{1}, nil)
	expect(t, u, "Dot(1; none)", n, 0, false, 9)
	if err != api.ErrSize {
		t.Error("Dot(1; none):", err)
	}
	expect(t, u, "Add(MaxFix, One, -One)", u.Add(most, one, -one), most-one, true, 12)
	u.Clear()
	expect(t, u, "Clear", 0, 0, false, 12)
	expect(t, u, "Sub(One, One)", u.Sub(one, one), 0, false, 13)
	var nobody *unit.Unit
	if n := nobody.Add(one); n != 0 || nobody.Count() != 0 {
		t.Error("nil:", n, nobody.Count())
	}
}

func TestFlag(t *testing.T) { // P4.1
	var f unit.Flag
	told := func(name string, want bool) {
		t.Helper()
		if f.Cut() != want {
			t.Errorf("%s: %v, not %v", name, f.Cut(), want)
		}
	}
	told("a flag that nobody made", false)
	f.Clear()
	told("cleared", false)
	f.Set(false)
	told("not set", false)
	f.Set(true)
	told("set", true)
	f.Set(false)
	told("set, and not again", true)
	f.Set(true)
	told("set twice", true)
	f.Clear()
	told("cleared once", false)
	f.Set(false)
	told("cleared, not set", false)
	f.Set(true)
	told("set again", true)
}

func TestNilFlag(t *testing.T) { // P4.1
	var f *unit.Flag
	for _, cut := range []bool{false, true} {
		f.Set(cut)
		if f.Cut() {
			t.Error("a nil flag is set")
		}
	}
	f.Clear()
	if f.Cut() {
		t.Error("a nil flag is set")
	}
}

func TestNew(t *testing.T) { // P4.1
	u, v := unit.New(), unit.New()
	if u == nil || u == v {
		t.Fatal("no new unit")
	}
	expect(t, u, "New", 0, 0, false, 0)
	expect(t, u, "Div", u.Div(one, 0), most, true, 1)
	expect(t, v, "the other one", 0, 0, false, 0)
	v.Set(true)
	u.Clear()
	expect(t, u, "Clear", 0, 0, false, 1)
	expect(t, v, "the other one, set", 0, 0, true, 0)
}

func TestSetAndCleared(t *testing.T) { // P4.1
	u := unit.New()
	u.Set(false)
	expect(t, u, "Set(false)", 0, 0, false, 0)
	u.Set(true)
	expect(t, u, "Set(true)", 0, 0, true, 0)
	expect(t, u, "what is not cut", u.Add(one), one, true, 1)
	u.Clear()
	expect(t, u, "cleared", 0, 0, false, 1)
	expect(t, u, "what is not cut, cleared", u.Add(one), one, false, 2)
	expect(t, u, "cut", u.Sqrt(-one), 0, true, 3)
	u.Clear()
	expect(t, u, "cleared again", 0, 0, false, 3)
	expect(t, u, "cut again", u.Whole(-1<<40), -most, true, 4)
	var f *unit.Flag = &u.Flag
	f.Clear()
	expect(t, u, "cleared by its flag", 0, 0, false, 4)
	f.Set(true)
	expect(t, u, "set by its flag", 0, 0, true, 4)
}

// reckoned is all that a unit answers of numbers that are cut, and of some that are not.
func reckoned(u *unit.Unit) []int {
	return []int{
		u.Add(), u.Add(one), u.Add(most, one), u.Add(none), u.Mul(), u.Mul(one), u.Mul(most, most), u.Sub(one, 0), u.Sub(none, most),
		u.Div(one, one), u.Div(one, 0), u.Half(2, 4), u.Half(none, none), u.Sqrt(one), u.Sqrt(-one), u.Whole(1), u.Whole(most), u.Count(),
	}
}

func TestNone(t *testing.T) { // P4.1, P4.3
	var nobody *unit.Unit
	unmade := &unit.Unit{}
	for name, u := range map[string]*unit.Unit{"nil": nobody, "unmade": unmade} {
		for k, n := range reckoned(u) {
			if n != 0 {
				t.Errorf("%s: the %d. answer is %d", name, k, n)
			}
		}
		for _, l := range [][2][]int{{nil, nil}, {{one}, {one}}, {{one}, nil}, {nil, {one}}, {{most}, {most}}} {
			if n, err := u.Dot(l[0], l[1]); n != 0 || err != api.ErrNil {
				t.Errorf("%s: Dot(%v): %d, %v", name, l, n, err)
			}
		}
		if u.Count() != 0 {
			t.Errorf("%s: it counts %d", name, u.Count())
		}
	}
	if unmade.Cut() {
		t.Error("unmade: what it reckoned was cut")
	}
	unmade.Set(true)
	if !unmade.Cut() || unmade.Add(one) != 0 {
		t.Error("unmade: its flag is set, and no more")
	}
	unmade.Clear()
	if unmade.Cut() {
		t.Error("unmade: its flag is cleared")
	}
}

func TestAdd(t *testing.T) { // P4.2
	for _, x := range []struct {
		l    []int
		want int
		cut  bool
	}{
		{nil, 0, false}, {[]int{}, 0, false}, {[]int{7}, 7, false}, {[]int{-7, 9, -2}, 0, false}, {[]int{most}, most, false}, {[]int{-most}, -most, false},
		{[]int{most, 1, -1, -1}, most - 2, true}, {[]int{-5, most, 6, -6}, most - 6, true}, {[]int{-1, -2, most, 4}, most, true}, {[]int{-1, -most, 5}, -most + 5, true},
		{[]int{most, -most, 3}, 3, false}, {[]int{most, -1, 1}, most, false}, {[]int{most, 1, -most, -most, 1}, -most + 1, true},
		{[]int{none}, -most, true}, {[]int{none, 5}, -most + 5, true}, {[]int{5, none, 5}, -most + 10, true}, {[]int{5, 5, none}, -most + 10, true}, {[]int{most, none}, 0, true},
	} {
		u := unit.New()
		expect(t, u, "Add", u.Add(x.l...), x.want, x.cut, len(x.l))
	}
}

func TestMul(t *testing.T) { // P4.2
	for _, x := range []struct {
		l    []int
		want int
		cut  bool
	}{
		{nil, one, false}, {[]int{}, one, false}, {[]int{7}, 7, false}, {[]int{-3 * one, one / 2, 4 * one}, -6 * one, false}, {[]int{0, most, most}, 0, false}, {[]int{-most}, -most, false},
		{[]int{most, 2 * one, one / 2}, most/2 + 1, true}, {[]int{one / 2, 1 << 62, 4 * one, -one / 2}, -most/2 - 1, true}, {[]int{one / 2, 1 << 48, 1 << 48}, most, true}, {[]int{one / 4, 1 << 48, 1 << 48}, 1 << 62, false}, {[]int{most, one / 2, 2 * one}, most, true},
		{[]int{1, one / 2, 2 * one}, 0, false}, {[]int{2 * one, one / 2, 1}, 1, false}, {[]int{3, one / 2, one / 2}, 1, false}, {[]int{one / 2, one / 2, 3}, 1, false}, {[]int{one / 2, 3, one / 2}, 1, false},
		{[]int{none}, -most, true}, {[]int{none, 0}, 0, true}, {[]int{0, none}, 0, true}, {[]int{one, none, -one}, most, true}, {[]int{one, -one, none}, most, true},
	} {
		u := unit.New()
		expect(t, u, "Mul", u.Mul(x.l...), x.want, x.cut, len(x.l))
	}
}

func TestListsInOrder(t *testing.T) { // P4.2
	some := numbers()
	r := rand.New(rand.NewPCG(11, 12))
	for k := range 4000 {
		l := make([]int, r.IntN(7))
		for i := range l {
			l[i] = some[r.IntN(len(some))]
		}
		u := unit.New()
		n, cut := walk(0, fix.Add, l)
		expect(t, u, "Add", u.Add(l...), n, cut, len(l))
		u.Clear()
		n, cut = walk(one, fix.Mul, l)
		expect(t, u, "Mul", u.Mul(l...), n, cut, 2*len(l))
		if t.Failed() {
			t.Fatalf("list %d: %d", k, l)
		}
	}
}

func TestOnes(t *testing.T) { // P4.2
	for _, x := range []struct {
		name string
		do   func(u *unit.Unit) int
		want int
		cut  bool
	}{
		{"Sub", func(u *unit.Unit) int { return u.Sub(3*one, one) }, 2 * one, false},
		{"Sub", func(u *unit.Unit) int { return u.Sub(-most, 1) }, -most, true},
		{"Sub", func(u *unit.Unit) int { return u.Sub(none, 0) }, -most, true},
		{"Sub", func(u *unit.Unit) int { return u.Sub(0, none) }, most, true},
		{"Div", func(u *unit.Unit) int { return u.Div(one, 3*one) }, 1431655765, false},
		{"Div", func(u *unit.Unit) int { return u.Div(1, 0) }, most, true},
		{"Div", func(u *unit.Unit) int { return u.Div(0, 0) }, 0, true},
		{"Div", func(u *unit.Unit) int { return u.Div(-5, 0) }, -most, true},
		{"Div", func(u *unit.Unit) int { return u.Div(0, none) }, 0, true},
		{"Half", func(u *unit.Unit) int { return u.Half(2, 3) }, 2, false},
		{"Half", func(u *unit.Unit) int { return u.Half(most, most) }, most, false},
		{"Half", func(u *unit.Unit) int { return u.Half(none, most) }, 0, true},
		{"Half", func(u *unit.Unit) int { return u.Half(0, none) }, -1 << 62, true},
		{"Sqrt", func(u *unit.Unit) int { return u.Sqrt(2 * one) }, 6074001000, false},
		{"Sqrt", func(u *unit.Unit) int { return u.Sqrt(0) }, 0, false},
		{"Sqrt", func(u *unit.Unit) int { return u.Sqrt(-1) }, 0, true},
		{"Sqrt", func(u *unit.Unit) int { return u.Sqrt(none) }, 0, true},
		{"Whole", func(u *unit.Unit) int { return u.Whole(7) }, 7 * one, false},
		{"Whole", func(u *unit.Unit) int { return u.Whole(-1 << 31) }, -most, true},
		{"Whole", func(u *unit.Unit) int { return u.Whole(1 << 31) }, most, true},
		{"Whole", func(u *unit.Unit) int { return u.Whole(none) }, -most, true},
	} {
		u := unit.New()
		expect(t, u, x.name, x.do(u), x.want, x.cut, 1)
	}
}

func TestOnesAsBelow(t *testing.T) { // P4.2
	u := unit.New()
	count := 0
	same := func(name string, got int, want int, cut bool) {
		t.Helper()
		count++
		expect(t, u, name, got, want, cut, count)
		u.Clear()
	}
	for _, a := range numbers() {
		n, cut := root.Sqrt(a)
		same("Sqrt", u.Sqrt(a), n, cut)
		n, cut = fix.Whole(a)
		same("Whole", u.Whole(a), n, cut)
		for _, b := range numbers() {
			n, cut = fix.Sub(a, b)
			same("Sub", u.Sub(a, b), n, cut)
			n, cut = fix.Div(a, b)
			same("Div", u.Div(a, b), n, cut)
			n, cut = fix.Half(a, b)
			same("Half", u.Half(a, b), n, cut)
		}
	}
}

func TestDot(t *testing.T) { // P4.3
	for _, x := range []struct {
		a, b []int
		want int
		cut  bool
	}{
		{nil, nil, 0, false}, {[]int{}, nil, 0, false}, {nil, []int{}, 0, false},
		{[]int{3 * one}, []int{-5 * one}, -15 * one, false}, {[]int{1, 2, 3}, []int{one, 2 * one, 3 * one}, 14, false},
		{[]int{1, 1}, []int{one / 2, one / 2}, 0, false}, {[]int{3, 3}, []int{one / 2, one / 2}, 4, false},
		{[]int{most, one, one}, []int{2 * one, -one, one}, most, true}, {[]int{one, most, -one}, []int{-one, 2 * one, one}, most - 2*one, true}, {[]int{-one, one, most}, []int{one, one, -2 * one}, -most, true},
		{[]int{most, one, -one}, []int{one, one, 2 * one}, most - 2*one, true}, {[]int{-one, most, one}, []int{2 * one, one, 2 * one}, most, false},
		{[]int{none}, []int{one}, -most, true}, {[]int{0, 1}, []int{none, one}, 1, true}, {[]int{one, none}, []int{one, -one}, most, true},
	} {
		u := unit.New()
		n, err := u.Dot(x.a, x.b)
		expect(t, u, "Dot", n, x.want, x.cut, 2*len(x.a))
		if err != api.OK {
			t.Errorf("Dot(%d; %d): %v", x.a, x.b, err)
		}
	}
}

func TestDotOfUnlikeLengths(t *testing.T) { // P4.3
	for _, set := range []bool{false, true} {
		u := unit.New()
		u.Set(set)
		for _, x := range [][2][]int{{{one}, nil}, {nil, {one}}, {{most, most}, {most}}, {{none}, {none, none}}, {{1, 2, 3}, {1, 2}}} {
			n, err := u.Dot(x[0], x[1])
			expect(t, u, "Dot", n, 0, set, 0)
			if err != api.ErrSize {
				t.Errorf("Dot(%d): %v", x, err)
			}
		}
	}
}

func TestDotInOrder(t *testing.T) { // P4.3
	some := numbers()
	r := rand.New(rand.NewPCG(13, 14))
	for range 4000 {
		a, b := make([]int, r.IntN(6)), []int{}
		u := unit.New()
		sum, any := 0, false
		for k := range a {
			a[k] = some[r.IntN(len(some))]
			b = append(b, some[r.IntN(len(some))])
			part, cut := fix.Mul(a[k], b[k])
			next, cut2 := fix.Add(sum, part)
			sum, any = next, any || cut || cut2
		}
		n, err := u.Dot(a, b)
		expect(t, u, "Dot", n, sum, any, 2*len(a))
		if err != api.OK || t.Failed() {
			t.Fatalf("Dot(%d; %d): %v", a, b, err)
		}
	}
}

func TestListsStayAsTheyWere(t *testing.T) { // P4.2, P4.3
	room := []int{one, most, none, -3, 11, 12}
	kept := slices.Clone(room)
	u := unit.New()
	u.Add(room[:4]...)
	u.Mul(room[:4]...)
	if _, err := u.Dot(room[:4], room[1:5]); err != api.OK {
		t.Error(err)
	}
	if !slices.Equal(room, kept) {
		t.Error("changed:", room)
	}
	u = unit.New()
	l := []int{one, 2 * one}
	n := u.Add(l...)
	l[0] = none
	expect(t, u, "Add", n, 3*one, false, 2)
}

func TestFlagHoldsWhatWasCut(t *testing.T) { // P4.4
	some := numbers()
	r := rand.New(rand.NewPCG(15, 16))
	pick := func() int { return some[r.IntN(len(some))] }
	u := unit.New()
	set, count := false, 0
	for range 20000 {
		a, b := pick(), pick()
		done, cut := 1, false
		switch r.IntN(9) {
		case 0:
			u.Add(a, b)
			_, cut = walk(0, fix.Add, []int{a, b})
			done = 2
		case 1:
			u.Mul(a)
			_, cut = fix.Mul(one, a)
		case 2:
			u.Sub(a, b)
			_, cut = fix.Sub(a, b)
		case 3:
			u.Div(a, b)
			_, cut = fix.Div(a, b)
		case 4:
			u.Half(a, b)
			_, cut = fix.Half(a, b)
		case 5:
			u.Sqrt(a)
			_, cut = root.Sqrt(a)
		case 6:
			u.Whole(a >> 20)
			_, cut = fix.Whole(a >> 20)
		case 7:
			u.Dot([]int{a}, []int{b})
			_, cut = fix.Mul(a, b)
			done = 2
		case 8:
			u.Clear()
			set, done = false, 0
		}
		set, count = set || cut, count+done
		expect(t, u, "behind it", 0, 0, set, count)
		if t.Failed() {
			t.FailNow()
		}
	}
}

func TestSumsHangOnNoOrder(t *testing.T) { // P4.4
	r := rand.New(rand.NewPCG(17, 18))
	plain := 0
	for range 3000 {
		l := make([]int, 1+r.IntN(8))
		for k := range l {
			l[k] = int(r.Uint64()) >> (2 + r.IntN(10))
		}
		u := unit.New()
		n := u.Add(l...)
		r.Shuffle(len(l), func(i, k int) { l[i], l[k] = l[k], l[i] })
		m := u.Add(l...)
		if u.Cut() {
			continue
		}
		plain++
		if n != m {
			t.Fatalf("Add(%d): %d and %d", l, n, m)
		}
	}
	if plain < 1000 {
		t.Error("too few sums without a cut:", plain)
	}
	u := unit.New()
	if u.Add(most, one, -one) == u.Add(most, -one, one) {
		t.Error("where it is cut, the order is told")
	}
}

func TestCountsOnlyRise(t *testing.T) { // P4.4
	u := unit.New()
	last := 0
	for _, do := range []func(){
		u.Clear, func() { u.Add() }, func() { u.Mul() }, func() { u.Dot(nil, nil) }, func() { u.Dot(nil, []int{1}) }, func() { u.Add(most, most) }, u.Clear,
		func() { u.Set(true) }, func() { u.Set(false) }, func() { u.Div(1, 0) }, u.Clear, func() { u.Sqrt(-1) }, func() { u.Sub(none, none) }, func() { u.Whole(none) }, func() { u.Count() },
	} {
		do()
		if u.Count() < last {
			t.Fatal("it fell:", u.Count(), last)
		}
		last = u.Count()
	}
	expect(t, u, "all of it", 0, 0, true, 6)
}
