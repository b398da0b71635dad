package model_test

import (
	"fmt"
	"math"
	"math/big"
	"math/rand/v2"
	"slices"
	"testing"

	"binnacle/api"
	"binnacle/model"
)

// The limits as ints, since tests negate and add to them.
const (
	one   = api.One
	part  = api.MaxPart
	most  = api.MaxFix
	none  = math.MinInt
	dim   = api.MaxN
	late  = api.MaxTime
	count = api.MaxCount
)

// chapter is the model of the chapter's examples.
func chapter() api.Model {
	return api.Model{
		N: 2, A: []int{0, one, 0, 0}, Q: []int{0, one}, Tick: one, Gate: 9 * one, Rmin: 1,
		Rows: []api.Row{{Sensor: 3, H: []int{one, 0}, R: 5}, {Sensor: 3, H: []int{0, one}, R: 5}, {Sensor: 7, H: []int{one, one}, R: 1}},
	}
}

// plain is a model of n numbers that may be: nothing moves or gains noise, and there is a row of each of the sensors.
func plain(n int, sensors ...int) api.Model {
	size := max(n, 0)
	m := api.Model{N: n, A: make([]int, size*size), Q: make([]int, size), Tick: one, Gate: 1, Rmin: 1}
	for _, s := range sensors {
		m.Rows = append(m.Rows, api.Row{Sensor: s, H: make([]int, size), R: 1})
	}
	return m
}

// full is a model of n numbers that may be, with the greatest numbers that may stand everywhere: above the diagonal alone of A.
func full(n int) api.Model {
	m := plain(n, 1, 1, 2, 9, 16)
	m.Gate, m.Rmin = most, most
	for k := range m.A {
		if k%n > k/n {
			m.A[k] = part
		}
	}
	for k := range m.Q {
		m.Q[k] = part
	}
	for i := range m.Rows {
		m.Rows[i].R = most
		for k := range m.Rows[i].H {
			m.Rows[i].H[k] = -part
		}
	}
	return m
}

// modelCopy shares nothing with m.
func modelCopy(m api.Model) api.Model {
	m.A, m.Q, m.Rows = slices.Clone(m.A), slices.Clone(m.Q), rowsCopy(m.Rows)
	return m
}

func rowsCopy(l []api.Row) []api.Row {
	l = slices.Clone(l)
	for i := range l {
		l[i].H = slices.Clone(l[i].H)
	}
	return l
}

func beliefCopy(b api.Belief) api.Belief {
	b.X, b.P = slices.Clone(b.X), slices.Clone(b.P)
	return b
}

func sameRow(a, b api.Row) bool {
	return a.Sensor == b.Sensor && a.R == b.R && slices.Equal(a.H, b.H)
}

func sameRows(a, b []api.Row) bool { return slices.EqualFunc(a, b, sameRow) }

func sameModel(a, b api.Model) bool {
	return a.N == b.N && slices.Equal(a.A, b.A) && slices.Equal(a.Q, b.Q) && a.Tick == b.Tick && a.Gate == b.Gate && a.Rmin == b.Rmin && sameRows(a.Rows, b.Rows)
}

func sameBelief(a, b api.Belief) bool {
	return a.At == b.At && slices.Equal(a.X, b.X) && slices.Equal(a.P, b.P) && a.Flag == b.Flag && a.Pass == b.Pass && a.Fail == b.Fail
}

// held is a belief of n numbers that fits: each number is another one, and P's are the same on both sides of the diagonal.
func held(n int) api.Belief {
	n = min(max(n, 0), 20)
	b := api.Belief{At: 4, X: make([]int, n), P: make([]int, n*n), Pass: 2, Fail: 3}
	for i := range n {
		b.X[i] = 100 + i
		for j := range n {
			b.P[i*n+j] = 10*max(i, j) + min(i, j)
		}
	}
	return b
}

// expect fails unless the model may be just if it is wanted: Check tells so, and Fits of a belief that has its sizes, too.
func expect(t *testing.T, name string, m api.Model, may bool) {
	t.Helper()
	want := api.ErrArg
	if may {
		want = api.OK
	}
	if err := model.Check(m); err != want {
		t.Errorf("Check, %s: %d, not %d", name, int(err), int(want))
	}
	if err := model.Fits(m, held(m.N)); err != want {
		t.Errorf("Fits, %s: %d, not %d", name, int(err), int(want))
	}
}

// expectFit fails unless Fits answers that, whether the belief's flag is set or not.
func expectFit(t *testing.T, name string, m api.Model, b api.Belief, want api.Errno) {
	t.Helper()
	for range 2 {
		if err := model.Fits(m, b); err != want {
			t.Errorf("Fits, %s, flag %v: %d, not %d", name, b.Flag, int(err), int(want))
		}
		b.Flag = !b.Flag
	}
}

// edges are the ends of ints, of fixed numbers and of a model's parts, and what is beside them.
func edges() []int {
	return []int{
		none, none + 1, -1 << 62, -part - one, -part - 2, -part - 1, -part, -part + 1, -one - 1, -one, -5, -2, -1, 0,
		1, 2, 5, one - 1, one, one + 1, 2 * one, part - 1, part, part + 1, part + 2, part + one, 1 << 40, 1<<40 + 1, 1 << 62, most - 1, most,
	}
}

// near tells of an edge whether it is no farther from 0 than 16 One, by whole numbers, so that -2^63 has its sign taken off as well.
func near(x int) bool {
	n := big.NewInt(int64(x))
	return n.Abs(n).Cmp(big.NewInt(part)) <= 0
}

func TestExamples(t *testing.T) {
	m := chapter()
	if err := model.Check(m); err != api.OK {
		t.Error("Check(m):", int(err))
	}
	if a, b, c := model.Dim(m, 3), model.Dim(m, 7), model.Dim(m, 1); a != 2 || b != 1 || c != 0 {
		t.Error("Dim(m, 3), Dim(m, 7), Dim(m, 1):", a, b, c)
	}
	if l := model.RowsOf(m, 7); !sameRows(l, m.Rows[2:]) {
		t.Error("RowsOf(m, 7):", l)
	}
	low, small, turned := chapter(), chapter(), chapter()
	low.A = []int{0, 0, one, 0}
	small.Rows[1].R = 0
	turned.Rows = []api.Row{m.Rows[2], m.Rows[0], m.Rows[1]}
	expect(t, "A = 0 0 One 0", low, false)
	expect(t, "R 0 in a row", small, false)
	expect(t, "rows 7 ahead of 3", turned, false)
	expectFit(t, "At 4, X 1 2, P 3 1 1 3", m, api.Belief{At: 4, X: []int{1, 2}, P: []int{3, 1, 1, 3}}, api.OK)
	expectFit(t, "P 3 1 2 3", m, api.Belief{At: 4, X: []int{1, 2}, P: []int{3, 1, 2, 3}}, api.ErrForm)
	expectFit(t, "X 1", m, api.Belief{At: 4, X: []int{1}, P: []int{3, 1, 1, 3}}, api.ErrSize)
	expectFit(t, "At -1", m, api.Belief{At: -1, X: []int{1, 2}, P: []int{3, 1, 1, 3}}, api.ErrRange)
}

func TestN(t *testing.T) { // P10.1
	for n := -20; n <= 20; n++ {
		expect(t, fmt.Sprint("N of ", n), plain(n, 1, 2), 1 <= n && n <= dim)
		expect(t, fmt.Sprint("N without rows of ", n), plain(n), 1 <= n && n <= dim)
	}
	for n := 1; n <= dim; n++ {
		expect(t, fmt.Sprint("full, N of ", n), full(n), true)
		m := plain(n)
		m.N = -n // its square is as it was
		expect(t, fmt.Sprint("lists of the same lengths, N of ", -n), m, false)
	}
	for _, n := range []int{none, none + 1, -1 << 33, -1 << 32, -1<<32 + 1, -256, 49, 256, 1 << 8, 1<<16 + 1, 1 << 31, 1<<32 - 1, 1 << 32, 1<<32 + 1, 1<<32 + 6, 1 << 33, 1 << 62, most - 1, most} {
		for size := range 8 { // the square of some of them goes round to 0, or to 1
			m := plain(size, 1)
			m.N = n
			expect(t, fmt.Sprintf("N of %d, lists for %d", n, size), m, n == size)
			m.A = nil
			expect(t, fmt.Sprintf("N of %d, no A, lists for %d", n, size), m, false)
			m.A, m.Rows = []int{0}, nil
			expect(t, fmt.Sprintf("N of %d, A of 0, no rows, lists for %d", n, size), m, n == size && n == 1)
		}
	}
	expect(t, "nothing", api.Model{}, false)
	expect(t, "nothing, but what is no list", api.Model{Tick: 1, Gate: 1, Rmin: 1}, false)
	expect(t, "N of 1 alone", api.Model{N: 1, Tick: 1, Gate: 1, Rmin: 1}, false)
	expect(t, "the least", api.Model{N: 1, A: []int{0}, Q: []int{0}, Tick: 1, Gate: 1, Rmin: 1}, true)
}

func TestLengths(t *testing.T) { // P10.1
	for n := 1; n <= dim; n++ {
		for size := range n*n + 9 {
			for _, like := range []func() api.Model{func() api.Model { return plain(n, 1, 16) }, func() api.Model { return full(n) }} {
				m := like()
				m.A = append(m.A, make([]int, 9)...)[:size]
				expect(t, fmt.Sprintf("N of %d, A of %d numbers", n, size), m, size == n*n)
				m = like()
				m.Q = append(m.Q, make([]int, n*n)...)[:min(size, len(m.Q)+n*n)]
				expect(t, fmt.Sprintf("N of %d, Q of %d numbers", n, len(m.Q)), m, len(m.Q) == n)
				for i := range m.Rows {
					m = like()
					m.Rows[i].H = append(m.Rows[i].H, make([]int, n*n)...)[:min(size, n+n*n)]
					expect(t, fmt.Sprintf("N of %d, H of %d numbers in row %d", n, len(m.Rows[i].H), i), m, len(m.Rows[i].H) == n)
				}
			}
		}
		room := []int{0, 0, none, 1, -1, none, 0, 7}
		m := plain(n, 1)
		m.A, m.Q, m.Rows[0].H = append(m.A, room...)[:n*n], append(m.Q, room[2:]...)[:n], append(m.Rows[0].H, room[2:]...)[:n]
		m.Rows = append(m.Rows, api.Row{Sensor: 99}, api.Row{})[:1]
		expect(t, "spare room is not looked at", m, true)
		m = plain(n, 1)
		m.A = nil
		expect(t, "no A", m, false)
		m = plain(n, 1)
		m.Q = nil
		expect(t, "no Q", m, false)
		m = plain(n, 1)
		m.Rows[0].H = nil
		expect(t, "no H", m, false)
		m = plain(n, 1)
		m.Rows = nil
		expect(t, "no rows", m, true)
		m.Rows = []api.Row{}
		expect(t, "rows that are empty", m, true)
		m.A = make([]int, 1<<16)
		expect(t, "a long A", m, false)
	}
}

func TestA(t *testing.T) { // P10.1: each place, of what is else 0, and of what is else the greatest that may be
	for n := 1; n <= dim; n++ {
		for k := range n * n {
			for _, x := range edges() {
				for _, m := range []api.Model{plain(n, 4), full(n)} {
					m.A[k] = x
					expect(t, fmt.Sprintf("A %v", m.A), m, x == 0 || k%n > k/n && near(x))
				}
			}
		}
		low := plain(n)
		for k := range low.A {
			if k%n < k/n {
				low.A[k] = one
			}
		}
		expect(t, fmt.Sprintf("A %v", low.A), low, n == 1)
	}
}

func TestQ(t *testing.T) { // P10.1
	for n := 1; n <= dim; n++ {
		for k := range n {
			for _, x := range edges() {
				for _, m := range []api.Model{plain(n, 4), full(n)} {
					m.Q[k] = x
					expect(t, fmt.Sprintf("Q %v", m.Q), m, x >= 0 && near(x))
				}
			}
		}
	}
}

func TestTickGateRmin(t *testing.T) { // P10.1
	for n := 1; n <= dim; n++ {
		for _, x := range edges() {
			m := plain(n, 1, 2)
			m.Tick = x
			expect(t, fmt.Sprint("Tick of ", x), m, x >= 1 && x <= one)
			m = plain(n, 1, 2)
			m.Gate = x
			expect(t, fmt.Sprint("Gate of ", x), m, x >= 1)
			m = full(n) // where no R is less than any Rmin
			m.Rmin = x
			expect(t, fmt.Sprint("Rmin of ", x), m, x >= 1)
			m.Rows = nil
			expect(t, fmt.Sprintf("Rmin of %d, without rows", x), m, x >= 1)
		}
	}
}

func TestRowsInNumber(t *testing.T) { // P10.1
	for _, n := range []int{1, 2, 6} {
		for size := range 80 {
			expect(t, fmt.Sprint("rows of one sensor: ", size), plain(n, slices.Repeat([]int{16}, size)...), size <= 24)
			var l []int
			for i := range size {
				l = append(l, 1+i*15/max(size-1, 1))
			}
			expect(t, fmt.Sprint("rows of all sensors: ", size), plain(n, l...), size <= 24)
		}
		expect(t, "many rows", plain(n, slices.Repeat([]int{1}, 1<<12)...), false)
	}
}

func TestSensors(t *testing.T) { // P10.1
	far := []int{none, -most, -1 << 40, -17, -16, -2, -1, 0, 1, 2, 3, 8, 15, 16, 17, 18, 24, 25, 32, 1 << 8, 1<<8 + 1, 1 << 16, 1<<32 + 1, 1<<62 + 3, most}
	for _, x := range far {
		expect(t, fmt.Sprint("the sensor ", x), plain(1, x), 1 <= x && x <= 16)
		for _, y := range far {
			expect(t, fmt.Sprint("the sensors ", x, y), plain(2, x, y), 1 <= x && x <= y && y <= 16)
			for _, z := range far {
				expect(t, fmt.Sprint("the sensors ", x, y, z), plain(1, x, y, z), 1 <= x && x <= y && y <= z && z <= 16)
			}
		}
	}
	rising := []int{1, 1, 2, 3, 4, 4, 4, 5, 6, 7, 8, 9, 10, 11, 12, 13, 13, 13, 14, 15, 15, 16, 16, 16}
	expect(t, "sensors that rise", plain(3, rising...), true)
	for i := range rising {
		for s := -1; s <= 18; s++ {
			l := slices.Clone(rising)
			l[i] = s
			expect(t, fmt.Sprint("the sensors ", l), plain(3, l...), slices.IsSorted(l) && l[0] >= 1 && l[23] <= 16)
		}
	}
}

func TestH(t *testing.T) { // P10.1
	for n := 1; n <= dim; n++ {
		for i := range 5 {
			for k := range n {
				for _, x := range edges() {
					for _, m := range []api.Model{plain(n, 1, 2, 2, 2, 3), full(n)} {
						m.Rows[i].H[k] = x
						expect(t, fmt.Sprintf("H %v in row %d", m.Rows[i].H, i), m, near(x))
					}
				}
			}
		}
	}
}

func TestR(t *testing.T) { // P10.1
	for _, least := range []int{1, 2, 5, one, part, part + 1, 1 << 62, most - 1, most} {
		for _, x := range append(edges(), least-1, least) {
			for i := range 24 {
				m := plain(2, slices.Repeat([]int{5}, 24)...)
				m.Rmin = least
				for k := range m.Rows {
					m.Rows[k].R = least + (most-least)/2
				}
				m.Rows[i].R = x
				expect(t, fmt.Sprintf("Rmin %d, R %d in row %d", least, x, i), m, x >= least)
			}
		}
	}
}

// mayBe is P10.1, by its words.
func mayBe(m api.Model) bool {
	if m.N < 1 || m.N > 6 || len(m.A) != m.N*m.N || len(m.Q) != m.N || m.Tick < 1 || m.Tick > one || m.Gate < 1 || m.Rmin < 1 || len(m.Rows) > 24 {
		return false
	}
	for i := range m.N {
		for k := range m.N {
			if x := m.A[i*m.N+k]; k <= i && x != 0 || !near(x) {
				return false
			}
		}
		if m.Q[i] < 0 || !near(m.Q[i]) {
			return false
		}
	}
	for i, row := range m.Rows {
		if row.Sensor < 1 || row.Sensor > 16 || i > 0 && row.Sensor < m.Rows[i-1].Sensor || len(row.H) != m.N || slices.ContainsFunc(row.H, func(x int) bool { return !near(x) }) || row.R < m.Rmin {
			return false
		}
	}
	return true
}

// drawn is a model that may be, of numbers by chance.
func drawn(r *rand.Rand) api.Model {
	n := 1 + r.IntN(dim)
	m := plain(n)
	m.Tick, m.Gate, m.Rmin = 1+r.IntN(one), 1+r.IntN(most), 1+r.IntN(1<<(1+r.IntN(62)))
	for k := range m.A {
		if k%n > k/n {
			m.A[k] = r.IntN(2*part+1) - part
		}
	}
	for k := range m.Q {
		m.Q[k] = r.IntN(part + 1)
	}
	sensors := make([]int, r.IntN(25))
	for i := range sensors {
		sensors[i] = 1 + r.IntN(16)
	}
	slices.Sort(sensors)
	for _, s := range sensors {
		row := api.Row{Sensor: s, H: make([]int, n), R: m.Rmin + r.IntN(most-m.Rmin)}
		for k := range row.H {
			row.H[k] = r.IntN(2*part+1) - part
		}
		m.Rows = append(m.Rows, row)
	}
	return m
}

// changed is m with one thing of it another one, which may be as well, or may not.
func changed(r *rand.Rand, m api.Model) api.Model {
	m = modelCopy(m)
	x := edges()[r.IntN(len(edges()))]
	longer := func(l []int) []int {
		if len(l) > 0 && r.IntN(2) == 0 {
			return l[:r.IntN(len(l))]
		}
		return append(l, x)
	}
	what := r.IntN(13)
	if len(m.Rows) == 0 && what > 7 {
		what -= 6
	}
	switch row := r.IntN(max(len(m.Rows), 1)); what {
	case 0:
		m.N = r.IntN(9) - 1
	case 1:
		m.Tick = x
	case 2:
		m.Gate = x
	case 3:
		m.Rmin = x
	case 4:
		if len(m.A) > 0 {
			m.A[r.IntN(len(m.A))] = x
		}
	case 5:
		if len(m.Q) > 0 {
			m.Q[r.IntN(len(m.Q))] = x
		}
	case 6:
		m.A = longer(m.A)
	case 7:
		m.Q = longer(m.Q)
	case 8:
		m.Rows[row].Sensor = r.IntN(19) - 1
	case 9:
		m.Rows[row].R = x
	case 10:
		m.Rows[row].H = longer(m.Rows[row].H)
	case 11:
		if h := m.Rows[row].H; len(h) > 0 {
			h[r.IntN(len(h))] = x
		}
	case 12:
		m.Rows = slices.Insert(m.Rows, row, m.Rows[row])
	}
	return m
}

func TestCheckByWords(t *testing.T) { // P10.1: one thing changed, or some, of models that may be
	r := rand.New(rand.NewPCG(71, 72))
	seen := map[bool]int{}
	for range 20000 {
		m := drawn(r)
		expect(t, "drawn", m, true)
		for range 1 + r.IntN(3) {
			m = changed(r, m)
			want := mayBe(m)
			seen[want]++
			expect(t, "changed", m, want)
		}
		if t.Failed() {
			t.Fatalf("of %+v", m)
		}
	}
	if min(seen[true], seen[false]) < 3000 {
		t.Error("too few may be, or may not:", seen)
	}
}

// odd is a model that may not be: sensors fall, are below 1 or above 16, and rows have numbers of all lengths.
func odd() api.Model {
	return api.Model{N: 70, Rows: []api.Row{
		{Sensor: 7, H: []int{1, 2}, R: 3}, {Sensor: 3, H: []int{none}, R: -4}, {Sensor: 0, H: []int{4, 5, 6}, R: none}, {Sensor: 7, R: 6}, {Sensor: 17, H: []int{7}, R: 7}, {Sensor: 3, H: []int{8, 9}, R: most},
		{Sensor: -1, H: []int{10}}, {Sensor: none, H: []int{11}, R: 9}, {Sensor: 7, H: []int{}, R: 10}, {Sensor: most, H: make([]int, 40), R: 11}, {Sensor: 7, H: []int{1, 2}, R: 3}, {Sensor: 1<<32 + 3, H: []int{12}, R: 12}, {},
	}}
}

// rowsBy are the rows of a sensor, by hand.
func rowsBy(m api.Model, sensor int) []api.Row {
	var l []api.Row
	for i := range m.Rows {
		if m.Rows[i].Sensor == sensor {
			l = append(l, m.Rows[i])
		}
	}
	return l
}

func TestRowsOfAnyModel(t *testing.T) { // P10.2: of one that may not be, too
	long := plain(1, slices.Repeat([]int{5, 9, 5, 30}, 100)...)
	for i := range long.Rows {
		long.Rows[i].R = i
	}
	spare := modelCopy(chapter())
	spare.Rows = append(spare.Rows, api.Row{Sensor: 7, R: 1}, api.Row{Sensor: 1, R: 2})[:3]
	room := chapter()
	room.Rows[2].H = append(room.Rows[2].H, 1, 2, 3)[:2]
	models := map[string]api.Model{"chapter": chapter(), "odd": odd(), "nothing": {}, "long": long, "full": full(6), "no rows": plain(3), "empty rows": {N: 2, Rows: []api.Row{}}, "spare rows": spare, "spare numbers": room, "falling": plain(2, 16, 9, 2, 1, 9, 16), "of no N": plain(0, 1, 1, 2), "of N below 0": plain(-3, 1, 2)}
	for name, m := range models {
		for _, sensor := range []int{none, none + 1, -1 << 32, -3, -2, -1, 0, 1, 2, 3, 4, 5, 6, 7, 8, 9, 10, 15, 16, 17, 18, 24, 30, 70, 259, 1<<16 + 3, 1 << 32, 1<<32 + 3, 1<<32 + 7, most - 1, most} {
			want := rowsBy(m, sensor)
			if l := model.RowsOf(m, sensor); !sameRows(l, want) {
				t.Errorf("RowsOf, %s, %d: %v, not %v", name, sensor, l, want)
			}
			if n := model.Dim(m, sensor); n != len(want) {
				t.Errorf("Dim, %s, %d: %d, not %d", name, sensor, n, len(want))
			}
		}
	}
}

func TestRowsOfDrawn(t *testing.T) { // P10.2, P10.4: rows of all sensors, one behind the other, are all rows
	r := rand.New(rand.NewPCG(73, 74))
	for range 3000 {
		m := drawn(r)
		var all []api.Row
		dims := 0
		for sensor := -1; sensor <= 18; sensor++ {
			l := model.RowsOf(m, sensor)
			if n := model.Dim(m, sensor); n != len(l) || !sameRows(l, rowsBy(m, sensor)) || (sensor < 1 || sensor > 16) && n != 0 {
				t.Fatalf("the sensor %d of %v: %d, %v", sensor, m.Rows, n, l)
			}
			all, dims = append(all, l...), dims+len(l)
		}
		if !sameRows(all, m.Rows) || dims != len(m.Rows) {
			t.Fatalf("%v, not %v", all, m.Rows)
		}
		if o := changed(r, changed(r, m)); len(o.Rows) > 0 {
			for _, row := range o.Rows {
				if l := model.RowsOf(o, row.Sensor); !sameRows(l, rowsBy(o, row.Sensor)) || model.Dim(o, row.Sensor) != len(l) {
					t.Fatalf("the sensor %d of %v: %v", row.Sensor, o.Rows, l)
				}
			}
		}
	}
}

// product is of two square lists of whole numbers.
func product(a, b []*big.Int, n int) []*big.Int {
	l := make([]*big.Int, n*n)
	for k := range l {
		l[k] = new(big.Int)
		for j := range n {
			l[k].Add(l[k], new(big.Int).Mul(a[k/n*n+j], b[j*n+k%n]))
		}
	}
	return l
}

// power is the matrix a, so many times one behind the other, whole; and whether something of it is left.
func power(a []int, n, times int) bool {
	var l, made []*big.Int
	for k, x := range a {
		l = append(l, big.NewInt(int64(x)))
		made = append(made, big.NewInt(int64(max(0, 1-max(k/n-k%n, k%n-k/n)))))
	}
	for range times {
		made = product(made, l, n)
	}
	return slices.ContainsFunc(made, func(x *big.Int) bool { return x.Sign() != 0 })
}

func TestNothingMovesInACircle(t *testing.T) { // P10.4
	r := rand.New(rand.NewPCG(75, 76))
	check := func(m api.Model) {
		t.Helper()
		if model.Check(m) == api.OK && power(m.A, m.N, m.N) {
			t.Fatalf("something of A is left: %v", m.A)
		}
	}
	for n := 1; n <= dim; n++ {
		m := full(n)
		check(m)
		if !power(m.A, n, n-1) {
			t.Errorf("N of %d: less than N times is enough", n)
		}
	}
	may := 0
	for range 3000 {
		m := drawn(r)
		check(m)
		for range 3 {
			m.A[r.IntN(len(m.A))] = r.IntN(3) - 1
			if model.Check(m) == api.OK {
				may++
			}
			check(m)
		}
	}
	if may < 500 {
		t.Error("too few may be:", may)
	}
}

func TestSizesOfBeliefs(t *testing.T) { // P10.3
	for n := 1; n <= dim; n++ {
		m := full(n)
		for size := range 9 {
			expectFit(t, fmt.Sprintf("N of %d, a belief of %d numbers", n, size), m, held(size), sized(size == n))
			b := held(n)
			b.X = make([]int, size)
			expectFit(t, fmt.Sprintf("N of %d, X of %d numbers", n, size), m, b, sized(size == n))
		}
		for size := range n*n + 20 {
			b := held(n)
			b.P = append(b.P, make([]int, 20)...)[:size]
			expectFit(t, fmt.Sprintf("N of %d, P of %d numbers", n, size), m, b, sized(size == n*n))
			b.P = make([]int, size)
			expectFit(t, fmt.Sprintf("N of %d, P of %d noughts", n, size), m, b, sized(size == n*n))
		}
		b := held(n)
		b.X = nil
		expectFit(t, "no X", m, b, api.ErrSize)
		b = held(n)
		b.P = nil
		expectFit(t, "no P", m, b, api.ErrSize)
		expectFit(t, "nothing", m, api.Belief{}, api.ErrSize)
		b = held(n)
		b.X, b.P = make([]int, 1<<16), make([]int, 1<<16)
		expectFit(t, "long ones", m, b, api.ErrSize)
		b = held(n)
		b.X, b.P = append(b.X, none, 1)[:n], append(b.P, none, -1, 1)[:n*n]
		expectFit(t, "spare room is not looked at", m, b, api.OK)
	}
	b := held(4)
	b.X, b.P = b.P, b.X
	expectFit(t, "X and P exchanged", full(4), b, api.ErrSize)
}

// sized is what is answered where sizes alone may be wrong.
func sized(fits bool) api.Errno {
	if fits {
		return api.OK
	}
	return api.ErrSize
}

func TestTimesAndCounts(t *testing.T) { // P10.3
	for _, x := range []int{none, none + 1, -1 << 40, -1<<40 - 1, -2, -1, 0, 1, 2, 1 << 31, 1 << 32, 1<<32 + 1, late - 1, late, late + 1, late + 2, 1 << 41, 1<<40 + 1<<32, 1 << 62, most - 1, most} {
		want := api.ErrRange
		if 0 <= x && x <= 1<<40 {
			want = api.OK
		}
		for n := 1; n <= dim; n++ {
			for name, set := range map[string]func(b *api.Belief){"At": func(b *api.Belief) { b.At = x }, "Pass": func(b *api.Belief) { b.Pass = x }, "Fail": func(b *api.Belief) { b.Fail = x }} {
				b := held(n)
				set(&b)
				expectFit(t, fmt.Sprintf("%s of %d", name, x), plain(n), b, want)
				b.At, b.Pass, b.Fail = late, count, count
				set(&b)
				expectFit(t, fmt.Sprintf("%s of %d, the others at their end", name, x), plain(n), b, want)
				b.At, b.Pass, b.Fail = 0, 0, 0
				set(&b)
				expectFit(t, fmt.Sprintf("%s of %d, the others 0", name, x), plain(n), b, want)
			}
		}
	}
}

func TestX(t *testing.T) { // P10.3: of all ints -2^63 alone is none
	for n := 1; n <= dim; n++ {
		for k := range n {
			for _, x := range edges() {
				b := held(n)
				b.X[k] = x
				expectFit(t, fmt.Sprintf("X %v", b.X), full(n), b, formed(x != none))
			}
		}
	}
}

// formed is what is answered where numbers alone may be wrong.
func formed(fits bool) api.Errno {
	if fits {
		return api.OK
	}
	return api.ErrForm
}

func TestP(t *testing.T) { // P10.3: each pair of places, and each place of the diagonal
	for n := 1; n <= dim; n++ {
		m := plain(n, 3)
		noughts := held(n)
		clear(noughts.P)
		expectFit(t, "noughts", m, noughts, api.OK)
		for i := range n {
			for j := range n {
				for _, x := range edges() {
					for _, like := range []api.Belief{held(n), noughts} {
						b := beliefCopy(like)
						b.P[i*n+j] = x
						fits := x != none && (i != j || x >= 0) && (i == j || x == like.P[i*n+j])
						expectFit(t, fmt.Sprintf("P %v", b.P), m, b, formed(fits))
						b.P[j*n+i] = x // more than any covariance's may be, and still of the form
						expectFit(t, fmt.Sprintf("P %v", b.P), m, b, formed(x != none && (i != j || x >= 0)))
					}
				}
				for _, off := range []int{-one, -1, 1, one, 1 << 32, 1 << 62} {
					b := held(n)
					b.P[i*n+j] += off
					expectFit(t, fmt.Sprintf("P %v", b.P), m, b, formed(i == j && b.P[i*n+j] >= 0))
				}
				b := beliefCopy(noughts)
				b.P[i*n+j], b.P[j*n+i] = -most, most
				expectFit(t, fmt.Sprintf("P %v", b.P), m, b, formed(i == j))
			}
		}
		all := beliefCopy(noughts)
		for k := range all.P {
			all.P[k] = none
		}
		expectFit(t, "P of -2^63 alone", m, all, api.ErrForm)
		for k := range all.P {
			all.P[k] = most
		}
		for k := range all.X {
			all.X[k] = -most
		}
		expectFit(t, "P of MaxFix alone", m, all, api.OK)
	}
}

// wrongModels are changes by which a model of two numbers may not be any more.
func wrongModels() []func(m *api.Model) {
	return []func(m *api.Model){
		func(m *api.Model) { m.N = 0 }, func(m *api.Model) { m.N = 1 }, func(m *api.Model) { m.N = 3 }, func(m *api.Model) { m.N = -2 }, func(m *api.Model) { m.N = none }, func(m *api.Model) { m.N = 1 << 32 },
		func(m *api.Model) { m.A = m.A[:3] }, func(m *api.Model) { m.A = nil }, func(m *api.Model) { m.A = append(m.A, 0) }, func(m *api.Model) { m.A[3] = 1 }, func(m *api.Model) { m.A[1] = none },
		func(m *api.Model) { m.Q = m.Q[:1] }, func(m *api.Model) { m.Q = append(m.Q, 0) }, func(m *api.Model) { m.Q[0] = -1 }, func(m *api.Model) { m.Q[1] = part + 1 },
		func(m *api.Model) { m.Tick = 0 }, func(m *api.Model) { m.Tick = one + 1 }, func(m *api.Model) { m.Gate = 0 }, func(m *api.Model) { m.Rmin = 0 }, func(m *api.Model) { m.Rmin = 2 },
		func(m *api.Model) { m.Rows = slices.Repeat(m.Rows[:1], 25) }, func(m *api.Model) { m.Rows[0].Sensor = 0 }, func(m *api.Model) { m.Rows[2].Sensor = 17 }, func(m *api.Model) { m.Rows[0].Sensor = 4 },
		func(m *api.Model) { m.Rows[1].H = nil }, func(m *api.Model) { m.Rows[1].H[1] = -part - 1 }, func(m *api.Model) { m.Rows[2].R = 0 },
	}
}

func TestErrorsInOrder(t *testing.T) { // P10.3: each one ahead of the next ones
	sizes := []func(b *api.Belief){
		func(b *api.Belief) { b.X = b.X[:1] }, func(b *api.Belief) { b.X = nil }, func(b *api.Belief) { b.X = append(b.X, b.X[0]) },
		func(b *api.Belief) { b.P = b.P[:3] }, func(b *api.Belief) { b.P = nil }, func(b *api.Belief) { b.P = append(b.P, none) },
		func(b *api.Belief) { b.X, b.P = b.X[:1], b.P[:1] }, func(b *api.Belief) { b.X, b.P = append(b.X, 5), slices.Repeat([]int{-7}, 9) },
	}
	ranges := []func(b *api.Belief){
		func(b *api.Belief) { b.At = -1 }, func(b *api.Belief) { b.At = late + 1 }, func(b *api.Belief) { b.At = none },
		func(b *api.Belief) { b.Pass = -1 }, func(b *api.Belief) { b.Pass = count + 1 }, func(b *api.Belief) { b.Fail = -1 }, func(b *api.Belief) { b.Fail = count + 1 },
	}
	forms := []func(b *api.Belief){
		func(b *api.Belief) { b.P[1]++ }, func(b *api.Belief) { b.P[0] = -1 }, func(b *api.Belief) { b.P[3] = none }, func(b *api.Belief) { b.P[1], b.P[2] = none, none }, func(b *api.Belief) { b.X[0] = none }, func(b *api.Belief) { b.X[1] = none },
	}
	nothing := func(*api.Belief) {}
	same := func(*api.Model) {}
	for i, wrong := range append(wrongModels(), same) {
		m := chapter()
		wrong(&m)
		for j, form := range append(forms, nothing) {
			for k, reach := range append(ranges, nothing) {
				for l, size := range append(sizes, nothing) {
					b := held(2)
					form(&b) // ahead of the sizes, since those may take away what it changes
					reach(&b)
					size(&b)
					want := api.OK
					switch {
					case i < len(wrongModels()):
						want = api.ErrArg
					case l < len(sizes):
						want = api.ErrSize
					case k < len(ranges):
						want = api.ErrRange
					case j < len(forms):
						want = api.ErrForm
					}
					expectFit(t, fmt.Sprintf("wrong by %d, %d, %d, %d", i, j, k, l), m, b, want)
				}
			}
		}
	}
}

func TestFitsAreNotOfAnotherModel(t *testing.T) { // P10.3: a belief hangs on N alone
	r := rand.New(rand.NewPCG(77, 78))
	for range 2000 {
		m := drawn(r)
		for n := range dim + 2 {
			expectFit(t, fmt.Sprintf("%d numbers of %d", n, m.N), m, held(n), sized(n == m.N))
		}
	}
}

func TestWhatWasHandedInStays(t *testing.T) { // DOC.md's Rule 4, and its spare room
	models := []api.Model{chapter(), odd(), full(6), plain(0), {}}
	for _, wrong := range wrongModels() {
		m := chapter()
		wrong(&m)
		models = append(models, m)
	}
	beliefs := []api.Belief{held(2), held(6), held(1), {}, {At: -1, X: []int{none, 2}, P: []int{-3, 1, 2, 3}, Flag: true, Pass: -1, Fail: most}}
	room := []int{1, 2, 3, 4, none, 6, 7, 8}
	roomy := chapter()
	roomy.A, roomy.Q, roomy.Rows[2].H = append(roomy.A, room...)[:4], append(roomy.Q, room...)[:2], append(roomy.Rows[2].H, room...)[:2]
	roomy.Rows = append(roomy.Rows, api.Row{Sensor: 7, H: []int{1, 2}, R: 3}, api.Row{Sensor: 3, H: []int{4, 5}, R: 6})[:3]
	whole := roomy
	whole.A, whole.Q, whole.Rows = whole.A[:cap(whole.A)], whole.Q[:cap(whole.Q)], whole.Rows[:5]
	was, h := modelCopy(whole), slices.Clone(roomy.Rows[2].H[:6])
	for _, m := range append(models, roomy) {
		before := modelCopy(m)
		for _, b := range beliefs {
			kept := beliefCopy(b)
			model.Check(m)
			model.Fits(m, b)
			for _, row := range append(m.Rows[:len(m.Rows):len(m.Rows)], api.Row{Sensor: 5}) {
				model.Dim(m, row.Sensor)
				for _, told := range model.RowsOf(m, row.Sensor) {
					spoil(told.H)
				}
			}
			if !sameModel(m, before) || !sameBelief(b, kept) {
				t.Fatalf("%+v, %+v, not %+v, %+v", m, b, before, kept)
			}
		}
	}
	if !sameModel(whole, was) || !slices.Equal(roomy.Rows[2].H[:6], h) {
		t.Errorf("the spare room: %+v, not %+v", whole, was)
	}
}

// spoil writes all over a list and its spare room.
func spoil(l []int) {
	l = l[:cap(l)]
	for k := range l {
		l[k] = 99
	}
}

func TestRowsAreNew(t *testing.T) { // DOC.md's Rule 4: neither of what is handed in, nor of another answer, nor of another row
	shared := []int{one, 2 * one, 3 * one, 4 * one, 5 * one, 6 * one, 7 * one}
	fresh := func() api.Model {
		m := plain(2, 2, 5, 5, 5, 5, 8)
		for i := range m.Rows {
			m.Rows[i].R = 1 + i
		}
		h := slices.Clone(shared)
		m.Rows[1].H, m.Rows[2].H, m.Rows[3].H, m.Rows[4].H = h[:2], h[:2], h[2:4], h[1:3]
		return m
	}
	want := rowsCopy(fresh().Rows[1:5])
	m := fresh()
	first, second := model.RowsOf(m, 5), model.RowsOf(m, 5)
	if !sameRows(first, want) || !sameRows(second, want) {
		t.Fatal(first, second, want)
	}
	for i := range first { // each row by itself, with its spare room
		spoil(first[i].H)
		for k := range first {
			if k > i && !sameRow(first[k], want[k]) {
				t.Errorf("row %d shares with row %d: %v", k, i, first[k])
			}
		}
	}
	room := first[:cap(first)]
	for i := range room {
		room[i] = api.Row{Sensor: 99, R: 99}
	}
	if !sameModel(m, fresh()) {
		t.Errorf("the model shares with what was told: %+v", m)
	}
	if !sameRows(second, want) || !sameRows(model.RowsOf(m, 5), want) {
		t.Error("one answer shares with another one:", second)
	}
	for i := range m.Rows {
		spoil(m.Rows[i].H)
		m.Rows[i] = api.Row{Sensor: 5, R: 77}
	}
	if !sameRows(second, want) {
		t.Error("what was told is of what was handed in:", second)
	}
	for _, sensor := range []int{1, 5, 9} { // of what has no spare room, and of nothing
		m := fresh()
		l := model.RowsOf(m, sensor)
		if l = append(l, api.Row{Sensor: 1}); !sameModel(m, fresh()) || len(model.RowsOf(m, sensor)) != len(l)-1 {
			t.Errorf("the sensor %d: what was told is kept", sensor)
		}
	}
}

func TestNothingIsKept(t *testing.T) { // P1: an answer hangs on what is handed in alone, whatever was asked ahead
	m, wrong, b := chapter(), chapter(), held(2)
	wrong.N = 7
	for range 3 {
		expect(t, "chapter", m, true)
		expect(t, "wrong", wrong, false)
		expectFit(t, "chapter", m, b, api.OK)
		if model.Dim(m, 3) != 2 || model.Dim(wrong, 3) != 2 || model.Dim(odd(), 3) != 2 || model.Dim(api.Model{}, 3) != 0 {
			t.Error("Dim hangs on what was asked ahead")
		}
		m.Rows[0].R, m.Rows[0].H[0] = 6, 7
		if l := model.RowsOf(m, 3); len(l) != 2 || l[0].R != 6 || l[0].H[0] != 7 {
			t.Error("RowsOf hangs on what was asked ahead:", l)
		}
		m = chapter()
	}
}
