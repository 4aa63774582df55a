package poly_test

import (
	"bytes"
	"fmt"
	"slices"
	"testing"

	"paritymill/api"
	"paritymill/field"
	"paritymill/plain"
	"paritymill/poly"
)

// maker makes the same numbers in each run.
type maker struct{ state uint64 }

func (m *maker) below(n int) int {
	m.state = m.state*6364136223846793005 + 1442695040888963407
	return int(m.state>>33) % n
}

// coefficients makes n of them; many are 0, so that noughts stand at the end and in the middle.
func (m *maker) coefficients(n int) []byte {
	p := make([]byte, n)
	for i := range p {
		if m.below(3) > 0 {
			p[i] = byte(m.below(256))
		}
	}
	return p
}

// points makes n of them, no two of one X.
func (m *maker) points(n int) []api.Point {
	var l []api.Point
	for len(l) < n {
		p := api.Point{X: byte(m.below(256)), Y: byte(m.below(256))}
		if !slices.ContainsFunc(l, func(q api.Point) bool { return q.X == p.X }) {
			l = append(l, p)
		}
	}
	return l
}

// valueByPowers adds powers of x, so that it shares no step with poly.Eval.
func valueByPowers(p []byte, x byte) byte {
	var sum byte
	for i, c := range p {
		power, _ := field.Pow(x, i)
		sum ^= field.Mul(c, power)
	}
	return sum
}

// full is a polynomial of n coefficients, none of them 0.
func full(n int) []byte { return bytes.Repeat([]byte{7}, n) }

func wantTold(t *testing.T, what string, err error, want api.Errno) {
	t.Helper()
	if plain.Told(err) != want || err == nil != (want == api.OK) {
		t.Errorf("%s: error %v, want %v", what, err, want)
	}
}

func wantList(t *testing.T, what string, got, want []byte) {
	t.Helper()
	if !bytes.Equal(got, want) {
		t.Errorf("%s: %v, want %v", what, got, want)
	}
}

// wantTrimmed holds that nothing that comes has noughts at the end.
func wantTrimmed(t *testing.T, what string, p []byte) {
	t.Helper()
	if len(p) > 0 && p[len(p)-1] == 0 {
		t.Errorf("%s: %v has noughts at the end", what, p)
	}
}

// wantValues holds that p has the values of want everywhere: fewer than 256 coefficients that do are the same polynomial.
func wantValues(t *testing.T, what string, p []byte, want func(x byte) byte) {
	t.Helper()
	for x := range 256 {
		if got := valueByPowers(p, byte(x)); got != want(byte(x)) {
			t.Fatalf("%s: %v at %d is %d, want %d", what, p, x, got, want(byte(x)))
		}
	}
}

func TestTrim(t *testing.T) {
	for _, c := range []struct{ p, want []byte }{
		{nil, nil},
		{[]byte{}, nil},
		{[]byte{0}, nil},
		{make([]byte, 40), nil},
		{make([]byte, 41), nil},
		{[]byte{5}, []byte{5}},
		{[]byte{0, 0, 5}, []byte{0, 0, 5}},
		{[]byte{5, 0}, []byte{5}},
		{[]byte{0, 1, 0, 2, 0, 0, 0}, []byte{0, 1, 0, 2}},
	} {
		wantList(t, fmt.Sprint("Trim of ", c.p), poly.Trim(c.p), c.want)
	}
}

func TestTrimHasNoBound(t *testing.T) {
	for _, n := range []int{39, 40, 41, 42, 1000, 100_000} {
		wantList(t, "Trim of many", poly.Trim(full(n)), full(n))
		wantList(t, "Trim of many and noughts", poly.Trim(append(full(n), make([]byte, n)...)), full(n))
	}
}

func TestAdd(t *testing.T) {
	for _, c := range []struct{ a, b, want []byte }{
		{nil, nil, nil},
		{nil, []byte{3}, []byte{3}},
		{[]byte{3}, nil, []byte{3}},
		{[]byte{0, 0}, []byte{0}, nil},
		{[]byte{1, 2, 3}, []byte{4}, []byte{5, 2, 3}},
		{[]byte{4}, []byte{1, 2, 3}, []byte{5, 2, 3}},
		{[]byte{1, 2, 3}, []byte{1, 2, 3}, nil},
		{[]byte{1, 2, 3}, []byte{0, 0, 3}, []byte{1, 2}},
		{[]byte{1, 0, 0}, []byte{0, 255, 0, 0}, []byte{1, 255}},
	} {
		got, err := poly.Add(c.a, c.b)
		wantTold(t, "Add", err, api.OK)
		wantList(t, fmt.Sprint("Add of ", c.a, c.b), got, c.want)
	}
}

func TestMul(t *testing.T) {
	for _, c := range []struct{ a, b, want []byte }{
		{nil, nil, nil},
		{nil, []byte{3}, nil},
		{[]byte{3}, nil, nil},
		{[]byte{0, 0}, []byte{3, 1}, nil},
		{[]byte{3}, []byte{255}, []byte{28}},
		{[]byte{1, 1}, []byte{1, 1}, []byte{1, 0, 1}},
		{[]byte{0, 1}, []byte{5, 0, 6}, []byte{0, 5, 0, 6}},
		{[]byte{1, 1, 0, 0}, []byte{44, 0, 241, 0}, []byte{44, 44, 241, 241}},
	} {
		got, err := poly.Mul(c.a, c.b)
		wantTold(t, "Mul", err, api.OK)
		wantList(t, fmt.Sprint("Mul of ", c.a, c.b), got, c.want)
	}
}

func TestEval(t *testing.T) {
	for _, c := range []struct {
		p       []byte
		x, want byte
	}{
		{nil, 7, 0},
		{[]byte{0, 0}, 7, 0},
		{[]byte{9}, 0, 9},
		{[]byte{9}, 255, 9},
		{[]byte{9, 8, 7}, 0, 9},
		{[]byte{9, 8, 7}, 1, 6},
		{[]byte{0, 1}, 200, 200},
		{[]byte{0, 3, 0, 0}, 255, 28},
		{[]byte{0, 0, 1}, 16, 29},
	} {
		got, err := poly.Eval(c.p, c.x)
		wantTold(t, "Eval", err, api.OK)
		if got != c.want {
			t.Errorf("Eval of %v at %d is %d, want %d", c.p, c.x, got, c.want)
		}
	}
}

func TestDivMod(t *testing.T) {
	for _, c := range []struct{ a, b, often, left []byte }{
		{nil, []byte{1}, nil, nil},
		{[]byte{0, 0}, []byte{0, 1}, nil, nil},
		{[]byte{28}, []byte{3}, []byte{255}, nil},
		{[]byte{5, 6}, []byte{1, 2, 3}, nil, []byte{5, 6}},
		{[]byte{5, 6, 0, 0}, []byte{1, 2, 3, 0}, nil, []byte{5, 6}},
		{[]byte{1, 0, 1}, []byte{1, 1}, []byte{1, 1}, nil},
		{[]byte{0, 0, 1}, []byte{1, 1}, []byte{1, 1}, []byte{1}},
		{[]byte{0, 0, 1, 0}, []byte{1, 1, 0, 0}, []byte{1, 1}, []byte{1}},
		{[]byte{1, 0, 0, 1}, []byte{0, 0, 1}, []byte{0, 1}, []byte{1}},
		{[]byte{116, 173}, []byte{1, 255, 0}, []byte{60}, []byte{72}},
	} {
		often, left, err := poly.DivMod(c.a, c.b)
		wantTold(t, "DivMod", err, api.OK)
		wantList(t, fmt.Sprint("how often in DivMod of ", c.a, c.b), often, c.often)
		wantList(t, fmt.Sprint("what is left in DivMod of ", c.a, c.b), left, c.left)
	}
}

func TestThrough(t *testing.T) {
	for _, c := range []struct {
		l    []api.Point
		want []byte
	}{
		{nil, nil},
		{[]api.Point{}, nil},
		{[]api.Point{{X: 3, Y: 0}}, nil},
		{[]api.Point{{X: 3, Y: 9}}, []byte{9}},
		{[]api.Point{{X: 0, Y: 9}, {X: 255, Y: 9}, {X: 7, Y: 9}}, []byte{9}},
		{[]api.Point{{X: 0, Y: 0}, {X: 255, Y: 255}, {X: 7, Y: 7}}, []byte{0, 1}},
		{[]api.Point{{X: 2, Y: 4}, {X: 0, Y: 0}, {X: 16, Y: 29}, {X: 1, Y: 1}}, []byte{0, 0, 1}},
		{[]api.Point{{X: 38, Y: 0}, {X: 12, Y: 255}}, []byte{70, 39}},
	} {
		got, err := poly.Through(c.l)
		wantTold(t, "Through", err, api.OK)
		wantList(t, fmt.Sprint("Through ", c.l), got, c.want)
	}
}

func TestManySumsProductsAndValues(t *testing.T) {
	m := &maker{state: 2}
	for range 60 {
		a, b := m.coefficients(m.below(41)), m.coefficients(m.below(41))
		sum, err := poly.Add(a, b)
		wantTold(t, "Add", err, api.OK)
		wantTrimmed(t, "Add", sum)
		wantValues(t, "Add", sum, func(x byte) byte { return valueByPowers(a, x) ^ valueByPowers(b, x) })
		product, err := poly.Mul(a, b)
		wantTold(t, "Mul", err, api.OK)
		wantTrimmed(t, "Mul", product)
		wantValues(t, "Mul", product, func(x byte) byte { return field.Mul(valueByPowers(a, x), valueByPowers(b, x)) })
		wantValues(t, "Eval", a, func(x byte) byte {
			v, err := poly.Eval(a, x)
			wantTold(t, "Eval", err, api.OK)
			return v
		})
	}
}

func TestManyDivisions(t *testing.T) {
	m := &maker{state: 3}
	for range 120 {
		a, b := m.coefficients(m.below(41)), m.coefficients(1+m.below(20))
		divisor := poly.Trim(b)
		often, left, err := poly.DivMod(a, b)
		if len(divisor) == 0 {
			wantTold(t, "DivMod by 0", err, api.ErrNone)
			continue
		}
		wantTold(t, "DivMod", err, api.OK)
		wantTrimmed(t, "how often", often)
		wantTrimmed(t, "what is left", left)
		if len(left) >= len(divisor) {
			t.Errorf("DivMod of %v and %v leaves %v, which is too long", a, b, left)
		}
		wantValues(t, "DivMod together again", a, func(x byte) byte {
			return field.Mul(valueByPowers(often, x), valueByPowers(b, x)) ^ valueByPowers(left, x)
		})
	}
}

// As many coefficients as Points, or fewer, that have these values are one polynomial alone: so none with fewer has them.
func TestThroughManyPoints(t *testing.T) {
	m := &maker{state: 4}
	for n := range 41 {
		for range 10 {
			l := m.points(n)
			p, err := poly.Through(l)
			wantTold(t, "Through", err, api.OK)
			wantTrimmed(t, "Through", p)
			if len(p) > n {
				t.Errorf("Through %d Points: %d coefficients", n, len(p))
			}
			for _, q := range l {
				if got := valueByPowers(p, q.X); got != q.Y {
					t.Fatalf("Through %v: %v has %d at %d", l, p, got, q.X)
				}
			}
		}
	}
}

func TestThroughFindsAPolynomialAgain(t *testing.T) {
	m := &maker{state: 5}
	for n := range 41 {
		p := m.coefficients(n)
		l := m.points(40)
		for i := range l {
			l[i].Y = valueByPowers(p, l[i].X)
		}
		got, err := poly.Through(l)
		wantTold(t, "Through", err, api.OK)
		wantList(t, "Through the values of a polynomial", got, poly.Trim(p))
	}
}

func TestFortyCoefficientsAreNotTooMany(t *testing.T) {
	p, one := full(40), []byte{0, 1}
	_, err := poly.Add(p, p)
	wantTold(t, "Add of 40 and 40", err, api.OK)
	product, err := poly.Mul(p, p)
	wantTold(t, "Mul of 40 and 40", err, api.OK)
	if len(product) != 79 {
		t.Errorf("the product of 40 and 40 coefficients has %d, want 79", len(product))
	}
	_, err = poly.Eval(p, 1)
	wantTold(t, "Eval of 40", err, api.OK)
	often, left, err := poly.DivMod(p, one)
	wantTold(t, "DivMod of 40", err, api.OK)
	wantList(t, "40 by x", often, full(39))
	wantList(t, "what 40 by x leave", left, full(1))
	often, left, err = poly.DivMod(p, p)
	wantTold(t, "DivMod of 40 and 40", err, api.OK)
	wantList(t, "40 by themselves", often, []byte{1})
	wantList(t, "what 40 by themselves leave", left, nil)
	sum, err := poly.Add(make([]byte, 40), one)
	wantTold(t, "Add of 40 noughts", err, api.OK)
	wantList(t, "Add of 40 noughts", sum, one)
}

// wantFull holds that each call with one that is too long, on either side, tells ErrFull and nothing else.
func wantFull(t *testing.T, p []byte) {
	t.Helper()
	for _, other := range [][]byte{nil, {0}, {0, 1}, full(40), full(41), make([]byte, 41), p} {
		for _, pair := range [][2][]byte{{p, other}, {other, p}} {
			a, b := pair[0], pair[1]
			what := fmt.Sprintf("of %d and %d coefficients", len(a), len(b))
			sum, err := poly.Add(a, b)
			wantTold(t, "Add "+what, err, api.ErrFull)
			wantList(t, "Add "+what, sum, nil)
			product, err := poly.Mul(a, b)
			wantTold(t, "Mul "+what, err, api.ErrFull)
			wantList(t, "Mul "+what, product, nil)
			often, left, err := poly.DivMod(a, b)
			wantTold(t, "DivMod "+what, err, api.ErrFull)
			wantList(t, "DivMod "+what, often, nil)
			wantList(t, "DivMod "+what, left, nil)
		}
	}
	v, err := poly.Eval(p, 1)
	wantTold(t, "Eval of too many", err, api.ErrFull)
	if v != 0 {
		t.Errorf("Eval of too many is %d, want 0", v)
	}
}

func TestMoreThanFortyCoefficientsAreTooMany(t *testing.T) {
	for _, n := range []int{41, 42, 80, 256, 100_000} {
		wantFull(t, full(n))
	}
}

// Noughts at the end are coefficients of what is handed in.
func TestNoughtsCountAmongTheCoefficients(t *testing.T) {
	wantFull(t, make([]byte, 41))
	wantFull(t, append([]byte{1}, make([]byte, 40)...))
	wantFull(t, append(full(40), 0))
}

func TestDivModByNothingIsNone(t *testing.T) {
	for _, b := range [][]byte{nil, {}, {0}, {0, 0, 0}, make([]byte, 40)} {
		for _, a := range [][]byte{nil, {0}, {5}, {1, 2, 3}, full(40)} {
			often, left, err := poly.DivMod(a, b)
			wantTold(t, "DivMod by 0", err, api.ErrNone)
			wantList(t, "DivMod by 0", often, nil)
			wantList(t, "DivMod by 0", left, nil)
		}
	}
}

// ErrFull is named ahead of ErrNone.
func TestDivModTellsTooManyAheadOfNone(t *testing.T) {
	for _, pair := range [][2][]byte{{full(41), nil}, {full(41), {0}}, {nil, make([]byte, 41)}, {full(3), make([]byte, 41)}} {
		often, left, err := poly.DivMod(pair[0], pair[1])
		wantTold(t, "DivMod of too many by 0", err, api.ErrFull)
		wantList(t, "DivMod of too many by 0", often, nil)
		wantList(t, "DivMod of too many by 0", left, nil)
	}
}

func TestThroughFortyPointsAndFortyOne(t *testing.T) {
	l := (&maker{state: 6}).points(256)
	for n, want := range map[int]api.Errno{39: api.OK, 40: api.OK, 41: api.ErrFull, 42: api.ErrFull, 256: api.ErrFull} {
		p, err := poly.Through(l[:n])
		wantTold(t, fmt.Sprint("Through ", n, " Points"), err, want)
		if want != api.OK {
			wantList(t, fmt.Sprint("Through ", n, " Points"), p, nil)
		}
	}
}

func TestThroughTwoPointsOfOneXClashes(t *testing.T) {
	m := &maker{state: 7}
	for n := 2; n <= 40; n++ {
		for _, sameY := range []bool{false, true} {
			l := m.points(n)
			i, k := m.below(n), m.below(n-1)
			if k >= i {
				k++
			}
			l[k].X = l[i].X
			l[k].Y = l[i].Y
			if !sameY {
				l[k].Y++
			}
			p, err := poly.Through(l)
			wantTold(t, "Through two of one X", err, api.ErrClash)
			wantList(t, "Through two of one X", p, nil)
		}
	}
}

func TestThroughClashesAtEveryX(t *testing.T) {
	for x := range 256 {
		l := []api.Point{{X: byte(x), Y: 1}, {X: byte(x + 1), Y: 1}, {X: byte(x), Y: 2}}
		p, err := poly.Through(l)
		wantTold(t, "Through two of one X", err, api.ErrClash)
		wantList(t, "Through two of one X", p, nil)
	}
}

// ErrFull is named ahead of ErrClash.
func TestThroughTellsTooManyAheadOfClash(t *testing.T) {
	for _, n := range []int{41, 300, 100_000} {
		p, err := poly.Through(make([]api.Point, n))
		wantTold(t, "Through too many Points of one X", err, api.ErrFull)
		wantList(t, "Through too many Points of one X", p, nil)
	}
}

// held is a list with other things behind its length in the same memory, and a copy of all of that.
type held[T comparable] struct{ list, memory, before []T }

func hold[T comparable](list []T, behind T) held[T] {
	memory := append(slices.Clone(list), behind, behind, behind, behind, behind)
	return held[T]{memory[:len(list)], memory, slices.Clone(memory)}
}

func (h held[T]) wantUntouched(t *testing.T, what string) {
	t.Helper()
	if !slices.Equal(h.memory, h.before) {
		t.Errorf("%s: what was handed in became %v, was %v", what, h.memory, h.before)
	}
}

// outcome is all that the package answers of its arguments.
func outcome(a, b []byte, l []api.Point) [][]byte {
	sum, _ := poly.Add(a, b)
	product, _ := poly.Mul(a, b)
	v, _ := poly.Eval(a, 77)
	often, left, _ := poly.DivMod(a, b)
	through, _ := poly.Through(l)
	return [][]byte{poly.Trim(a), sum, product, {v}, often, left, through}
}

func copies(lists [][]byte) [][]byte {
	var out [][]byte
	for _, l := range lists {
		out = append(out, slices.Clone(l))
	}
	return out
}

// argumentsOfMemory are such as let a careless call hand an argument out again.
func argumentsOfMemory(m *maker) [][2][]byte {
	out := [][2][]byte{{{1, 2, 3}, nil}, {nil, {1, 2, 3}}, {{1, 2, 3}, {1}}, {{1}, {1, 2, 3}}, {{5, 6, 0}, {1, 2, 3, 4}},
		{{9, 9}, {0, 0}}, {{0}, {0}}, {{}, {}}, {full(40), {1}}, {full(41), {1}}, {{1}, full(41)}}
	for range 60 {
		out = append(out, [2][]byte{m.coefficients(m.below(41)), m.coefficients(m.below(41))})
	}
	return out
}

func TestWhatIsHandedInStays(t *testing.T) {
	m := &maker{state: 8}
	for _, pair := range argumentsOfMemory(m) {
		l := m.points(m.below(41))
		want := copies(outcome(slices.Clip(pair[0]), slices.Clip(pair[1]), slices.Clip(l)))
		a, b, points := hold(pair[0], 0xaa), hold(pair[1], 0x55), hold(l, api.Point{X: 1, Y: 1})
		got := outcome(a.list, b.list, points.list)
		a.wantUntouched(t, "a")
		b.wantUntouched(t, "b")
		points.wantUntouched(t, "Points")
		for i := range got {
			wantList(t, "with other things behind the length", got[i], want[i])
		}
		clear(a.memory)
		clear(b.memory)
		clear(points.memory)
		for i := range got {
			wantList(t, "after what was handed in was written into", got[i], want[i])
		}
	}
}

func TestWhatComesOutIsFresh(t *testing.T) {
	m := &maker{state: 9}
	for _, pair := range argumentsOfMemory(m) {
		a, b, points := hold(pair[0], 0xaa), hold(pair[1], 0x55), hold(m.points(7), api.Point{X: 1, Y: 1})
		got := outcome(a.list, b.list, points.list)
		again := copies(got)
		for i := range got {
			whole := got[i][:cap(got[i])]
			for k := range whole {
				whole[k] ^= 0xff
			}
			for k := i + 1; k < len(got); k++ {
				wantList(t, "after another answer was written into", got[k], again[k])
			}
		}
		a.wantUntouched(t, "a, after the answers were written into")
		b.wantUntouched(t, "b, after the answers were written into")
		fresh := outcome(a.list, b.list, points.list)
		for i := range fresh {
			wantList(t, "after the answers were written into", fresh[i], again[i])
		}
	}
}

func TestOneListOnBothSides(t *testing.T) {
	p := hold([]byte{3, 0, 7, 0}, 9)
	for i, got := range outcome(p.list, p.list, nil) {
		want := [][]byte{{3, 0, 7}, nil, {5, 0, 0, 0, 21}, {valueByPowers(p.list, 77)}, {1}, nil, nil}[i]
		wantList(t, "of one list twice", got, want)
	}
	p.wantUntouched(t, "one list twice")
}

func TestNothingAndNilAreTheSame(t *testing.T) {
	for _, b := range [][]byte{nil, {}, {4, 5}} {
		none, empty := outcome(nil, b, nil), outcome([]byte{}, b, []api.Point{})
		for i := range none {
			wantList(t, "of an empty list", empty[i], none[i])
		}
	}
}

func TestErrorsAreTheNumbersOfThePromise(t *testing.T) {
	_, tooMany := poly.Eval(full(41), 0)
	_, _, none := poly.DivMod(nil, nil)
	_, clash := poly.Through(make([]api.Point, 2))
	if plain.Told(tooMany) != 4 || plain.Told(none) != 5 || plain.Told(clash) != 7 {
		t.Errorf("told %d, %d, %d, want 4, 5, 7", plain.Told(tooMany), plain.Told(none), plain.Told(clash))
	}
}
