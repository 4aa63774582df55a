package matrix_test

import (
	"bytes"
	"fmt"
	"math"
	"slices"
	"testing"

	"paritymill/api"
	"paritymill/field"
	"paritymill/matrix"
	"paritymill/plain"
)

// maker makes the same numbers in each run.
type maker struct{ state uint64 }

func (m *maker) below(n int) int {
	m.state = m.state*6364136223846793005 + 1442695040888963407
	return int(m.state>>33) % n
}

// element is 0 or 1 more often than others, so that rows must be swapped and some hang on others.
func (m *maker) element() byte {
	if m.below(3) == 0 {
		return byte(m.below(2))
	}
	return byte(m.below(256))
}

func (m *maker) matrix(rows, columns int) [][]byte {
	out := grid(rows, columns, 0)
	for _, row := range out {
		for k := range row {
			row[k] = m.element()
		}
	}
	return out
}

// distinct makes n elements, no two the same.
func (m *maker) distinct(n int) []byte {
	var out []byte
	for len(out) < n {
		if e := byte(m.below(256)); !bytes.Contains(out, []byte{e}) {
			out = append(out, e)
		}
	}
	return out
}

func (m *maker) shuffle(rows [][]byte) {
	for i := len(rows) - 1; i > 0; i-- {
		k := m.below(i + 1)
		rows[i], rows[k] = rows[k], rows[i]
	}
}

// ofRank makes a matrix of that rank: rows of which as many hang on no others, times columns of which as many hang on no others.
func (m *maker) ofRank(rows, columns, rank int) [][]byte {
	left, right := m.matrix(rows, rank), m.matrix(columns, rank)
	for i := range rank {
		for k := range rank {
			left[i][k], right[i][k] = 0, 0
		}
		left[i][i], right[i][i] = 1, byte(1+m.below(255))
	}
	m.shuffle(left)
	m.shuffle(right)
	return times(left, turned(right, rank), columns)
}

func grid(rows, columns int, e byte) [][]byte {
	out := make([][]byte, rows)
	for i := range out {
		out[i] = bytes.Repeat([]byte{e}, columns)
	}
	return out
}

// turned has rows as columns. It has that many rows.
func turned(m [][]byte, rows int) [][]byte {
	out := grid(rows, len(m), 0)
	for i, row := range m {
		for k, e := range row {
			out[k][i] = e
		}
	}
	return out
}

// times is worked out element by element, so that it shares no step with matrix.Mul.
func times(a, b [][]byte, columns int) [][]byte {
	out := grid(len(a), columns, 0)
	for i := range out {
		for k := range out[i] {
			for j := range b {
				out[i][k] ^= field.Mul(a[i][j], b[j][k])
			}
		}
	}
	return out
}

func unit(n int) [][]byte {
	out := grid(n, n, 0)
	for i := range n {
		out[i][i] = 1
	}
	return out
}

// determinant goes by the first row, so that it shares no step with what swaps and clears rows.
func determinant(m [][]byte) byte {
	if len(m) == 0 {
		return 1
	}
	var sum byte
	for k, e := range m[0] {
		if e != 0 {
			sum ^= field.Mul(e, determinant(without(m[1:], k)))
		}
	}
	return sum
}

func without(m [][]byte, column int) [][]byte {
	var out [][]byte
	for _, row := range m {
		out = append(out, slices.Concat(row[:column], row[column+1:]))
	}
	return out
}

// rankByMinors is the side of the greatest square piece that has a determinant.
func rankByMinors(m [][]byte, columns int) int {
	best := 0
	for some := range 1 << len(m) {
		rows := picked(m, some)
		for these := range 1 << columns {
			piece := turned(picked(turned(rows, columns), these), len(rows))
			if len(rows) > best && len(piece[0]) == len(rows) && determinant(piece) != 0 {
				best = len(rows)
			}
		}
	}
	return best
}

// picked has the rows whose bits are set.
func picked(m [][]byte, bits int) [][]byte {
	var out [][]byte
	for i, row := range m {
		if bits>>i&1 == 1 {
			out = append(out, row)
		}
	}
	return out
}

func wantTold(t *testing.T, what string, err error, want api.Errno) {
	t.Helper()
	if plain.Told(err) != want || err == nil != (want == api.OK) {
		t.Errorf("%s: error %v, want %v", what, err, want)
	}
}

func same(a, b [][]byte) bool {
	return slices.EqualFunc(a, b, func(p, q []byte) bool { return bytes.Equal(p, q) })
}

func wantMatrix(t *testing.T, what string, got, want [][]byte) {
	t.Helper()
	if !same(got, want) {
		t.Errorf("%s: %v, want %v", what, got, want)
	}
}

func wantRank(t *testing.T, what string, got, want int) {
	t.Helper()
	if got != want {
		t.Errorf("%s: rank %d, want %d", what, got, want)
	}
}

// wantCheck holds that Check, and what asks it first, tell that error and nothing else.
func wantCheck(t *testing.T, what string, m [][]byte, want api.Errno) {
	t.Helper()
	wantTold(t, "Check of "+what, matrix.Check(m), want)
	rank, err := matrix.Rank(m)
	wantTold(t, "Rank of "+what, err, want)
	if want == api.OK {
		return
	}
	wantRank(t, "Rank of "+what, rank, 0)
	inverse, err := matrix.Inverse(m)
	wantTold(t, "Inverse of "+what, err, want)
	wantMatrix(t, "Inverse of "+what, inverse, nil)
	for _, other := range [][][]byte{nil, unit(1), unit(2), unit(12)} {
		product, err := matrix.Mul(m, other)
		wantTold(t, "Mul of "+what, err, want)
		wantMatrix(t, "Mul of "+what, product, nil)
		product, err = matrix.Mul(other, m)
		wantTold(t, "Mul by "+what, err, want)
		wantMatrix(t, "Mul by "+what, product, nil)
	}
}

func TestCheckOfWhatMayBe(t *testing.T) {
	wantCheck(t, "no rows", nil, api.OK)
	wantCheck(t, "no rows", [][]byte{}, api.OK)
	wantCheck(t, "rows without elements", [][]byte{nil, {}, nil}, api.OK)
	for rows := range 13 {
		for columns := range 13 {
			wantCheck(t, fmt.Sprint(rows, " by ", columns), grid(rows, columns, 3), api.OK)
		}
	}
}

func TestCheckOfTooMany(t *testing.T) {
	for _, n := range []int{13, 14, 256, 70_000} {
		for _, other := range []int{0, 1, 12, 13} {
			wantCheck(t, fmt.Sprint(n, " rows"), grid(n, other, 3), api.ErrFull)
			if other > 0 {
				wantCheck(t, fmt.Sprint(n, " elements"), grid(other, n, 3), api.ErrFull)
			}
		}
	}
	wantCheck(t, "13 rows of nil", make([][]byte, 13), api.ErrFull)
}

func TestCheckOfRowsThatAreNotOfOneLength(t *testing.T) {
	for rows := 2; rows <= 12; rows++ {
		for columns := range 13 {
			for at := range rows {
				m := grid(rows, columns, 3)
				m[at] = grid(1, (columns+1)%13, 3)[0]
				wantCheck(t, fmt.Sprint("a row of another length at ", at), m, api.ErrShape)
			}
		}
	}
	wantCheck(t, "a row of nil among others", [][]byte{{1, 0}, nil}, api.ErrShape)
	wantCheck(t, "a row of nil ahead of others", [][]byte{nil, {1}}, api.ErrShape)
}

// ErrFull is named ahead of ErrShape, wherever the rows stand.
func TestCheckTellsTooManyAheadOfShape(t *testing.T) {
	long := grid(1, 13, 3)[0]
	wantCheck(t, "a long row first", [][]byte{long, {1}}, api.ErrFull)
	wantCheck(t, "a long row last", [][]byte{{1}, {1, 2}, long}, api.ErrFull)
	wantCheck(t, "a long row in the middle", [][]byte{{1}, long, {1, 2}}, api.ErrFull)
	wantCheck(t, "13 rows that are not of one length", append(grid(12, 3, 3), []byte{1}), api.ErrFull)
}

func TestIdentity(t *testing.T) {
	got, err := matrix.Identity(3)
	wantTold(t, "Identity of 3", err, api.OK)
	wantMatrix(t, "Identity of 3", got, [][]byte{{1, 0, 0}, {0, 1, 0}, {0, 0, 1}})
	for n := 1; n <= 12; n++ {
		got, err := matrix.Identity(n)
		wantTold(t, fmt.Sprint("Identity of ", n), err, api.OK)
		wantMatrix(t, fmt.Sprint("Identity of ", n), got, unit(n))
	}
}

func TestIdentityOfWhatMayNotBe(t *testing.T) {
	for _, n := range []int{0, -1, -12, 13, 14, 256, 257, 1 << 32, 1<<32 + 1, 1 << 62, math.MaxInt, math.MinInt, math.MinInt + 1} {
		got, err := matrix.Identity(n)
		wantTold(t, fmt.Sprint("Identity of ", n), err, api.ErrRange)
		wantMatrix(t, fmt.Sprint("Identity of ", n), got, nil)
	}
}

func TestMul(t *testing.T) {
	for _, c := range []struct{ a, b, want [][]byte }{
		{[][]byte{{3}}, [][]byte{{255}}, [][]byte{{28}}},
		{[][]byte{{0}}, [][]byte{{127, 255}}, [][]byte{{0, 0}}},
		{[][]byte{{1, 2, 3}}, [][]byte{{1}, {1}, {1}}, [][]byte{{0}}},
		{[][]byte{{1}, {2}, {3}}, [][]byte{{1, 2}}, [][]byte{{1, 2}, {2, 4}, {3, 6}}},
		{[][]byte{{1, 1}, {0, 1}}, [][]byte{{5, 6}, {7, 8}}, [][]byte{{2, 14}, {7, 8}}},
		{[][]byte{{5, 6}, {7, 8}}, [][]byte{{1, 1}, {0, 1}}, [][]byte{{5, 3}, {7, 15}}},
		{[][]byte{{0, 1}, {1, 0}}, [][]byte{{9, 8, 7}, {6, 5, 4}}, [][]byte{{6, 5, 4}, {9, 8, 7}}},
	} {
		got, err := matrix.Mul(c.a, c.b)
		wantTold(t, "Mul", err, api.OK)
		wantMatrix(t, fmt.Sprint("Mul of ", c.a, c.b), got, c.want)
	}
}

func TestMulOfNothing(t *testing.T) {
	for _, b := range [][][]byte{nil, {}, {{}}, {nil, nil}, {{1, 2}, {3, 4}}, grid(12, 12, 3)} {
		for _, a := range [][][]byte{nil, {}} {
			got, err := matrix.Mul(a, b)
			wantTold(t, "Mul of no rows", err, api.OK)
			wantMatrix(t, "Mul of no rows", got, nil)
		}
	}
	for n := 1; n <= 12; n++ {
		got, err := matrix.Mul(make([][]byte, n), nil)
		wantTold(t, "Mul of rows without elements by no rows", err, api.OK)
		wantMatrix(t, "Mul of rows without elements by no rows", got, make([][]byte, n))
		got, err = matrix.Mul(grid(n, n, 3), make([][]byte, n))
		wantTold(t, "Mul by rows without elements", err, api.OK)
		wantMatrix(t, "Mul by rows without elements", got, make([][]byte, n))
	}
}

func TestManyProducts(t *testing.T) {
	m := &maker{state: 1}
	for rows := range 13 {
		for between := range 13 {
			for columns := range 13 {
				a, b := m.matrix(rows, between), m.matrix(between, columns)
				wide := columns
				if between == 0 {
					wide = 0 // without rows b has no columns
				}
				got, err := matrix.Mul(a, b)
				wantTold(t, "Mul", err, api.OK)
				wantMatrix(t, fmt.Sprint("Mul of ", a, b), got, times(a, b, wide))
			}
		}
	}
}

func TestMulOfWhatDoesNotGoTogether(t *testing.T) {
	for columns := range 13 {
		for rows := range 13 {
			if rows == columns {
				continue
			}
			for _, other := range []int{0, 1, columns, rows, 12} {
				got, err := matrix.Mul(grid(max(other, 1), columns, 3), grid(rows, other, 3))
				what := fmt.Sprint("Mul of ", columns, " elements by ", rows, " rows")
				wantTold(t, what, err, api.ErrShape)
				wantMatrix(t, what, got, nil)
			}
		}
	}
}

// What is wrong with a is told ahead of what is wrong with b, and that ahead of how they go together.
func TestMulTellsOfTheFirstThatHasAFault(t *testing.T) {
	long, ragged, fine := grid(1, 13, 3), [][]byte{{1}, {1, 2}}, grid(1, 5, 3)
	for _, c := range []struct {
		a, b [][]byte
		want api.Errno
	}{
		{long, ragged, api.ErrFull},
		{ragged, long, api.ErrShape},
		{ragged, grid(13, 1, 3), api.ErrShape},
		{fine, long, api.ErrFull},
		{fine, grid(13, 1, 3), api.ErrFull},
		{fine, ragged, api.ErrShape},
		{nil, long, api.ErrFull},
		{nil, ragged, api.ErrShape},
		{long, nil, api.ErrFull},
		{ragged, nil, api.ErrShape},
		{long, grid(13, 13, 3), api.ErrFull},
	} {
		got, err := matrix.Mul(c.a, c.b)
		wantTold(t, fmt.Sprint("Mul of ", c.a, c.b), err, c.want)
		wantMatrix(t, fmt.Sprint("Mul of ", c.a, c.b), got, nil)
	}
}

func TestInverse(t *testing.T) {
	for _, c := range []struct{ m, want [][]byte }{
		{[][]byte{{1}}, [][]byte{{1}}},
		{[][]byte{{255}}, [][]byte{{253}}},
		{[][]byte{{0, 1}, {1, 0}}, [][]byte{{0, 1}, {1, 0}}},
		{[][]byte{{1, 7}, {0, 1}}, [][]byte{{1, 7}, {0, 1}}},
		{[][]byte{{0, 255}, {255, 255}}, [][]byte{{253, 253}, {253, 0}}},
		{[][]byte{{0, 1, 0}, {0, 0, 1}, {1, 0, 0}}, [][]byte{{0, 0, 1}, {1, 0, 0}, {0, 1, 0}}},
	} {
		got, err := matrix.Inverse(c.m)
		wantTold(t, "Inverse", err, api.OK)
		wantMatrix(t, fmt.Sprint("Inverse of ", c.m), got, c.want)
	}
}

// wantInverse holds that there is one, and that by it m is the identity, from both sides.
func wantInverse(t *testing.T, m [][]byte) {
	t.Helper()
	got, err := matrix.Inverse(m)
	wantTold(t, fmt.Sprint("Inverse of ", m), err, api.OK)
	if err != nil || len(got) != len(m) || len(got[0]) != len(m) {
		t.Fatalf("Inverse of %v is %v", m, got)
	}
	wantMatrix(t, fmt.Sprint(m, " times its inverse"), times(m, got, len(m)), unit(len(m)))
	wantMatrix(t, fmt.Sprint("the inverse times ", m), times(got, m, len(m)), unit(len(m)))
}

func wantNoInverse(t *testing.T, m [][]byte, want api.Errno) {
	t.Helper()
	got, err := matrix.Inverse(m)
	wantTold(t, fmt.Sprint("Inverse of ", m), err, want)
	wantMatrix(t, fmt.Sprint("Inverse of ", m), got, nil)
}

func TestManyInverses(t *testing.T) {
	m := &maker{state: 2}
	for n := 1; n <= 12; n++ {
		wantInverse(t, unit(n))
		for range 40 {
			wantInverse(t, m.ofRank(n, n, n))
			wantNoInverse(t, m.ofRank(n, n, m.below(n)), api.ErrNone)
		}
		wantNoInverse(t, m.ofRank(n, n, n-1), api.ErrNone)
		wantNoInverse(t, grid(n, n, 0), api.ErrNone)
	}
}

func TestInverseOfEachElement(t *testing.T) {
	wantNoInverse(t, [][]byte{{0}}, api.ErrNone)
	for e := 1; e < 256; e++ {
		wantInverse(t, [][]byte{{byte(e)}})
	}
}

// A square matrix has an inverse if and only if it has a determinant.
func TestInverseIsThereWhereThereIsADeterminant(t *testing.T) {
	m := &maker{state: 3}
	for n := 1; n <= 4; n++ {
		for range 400 {
			small := m.matrix(n, n)
			for _, row := range small {
				for k := range row {
					row[k] %= 3
				}
			}
			if determinant(small) == 0 {
				wantNoInverse(t, small, api.ErrNone)
			} else {
				wantInverse(t, small)
			}
		}
	}
}

func TestInverseOfWhatIsNotSquare(t *testing.T) {
	wantNoInverse(t, nil, api.ErrShape)
	wantNoInverse(t, [][]byte{}, api.ErrShape)
	for rows := 1; rows <= 12; rows++ {
		for columns := range 13 {
			if rows != columns {
				wantNoInverse(t, grid(rows, columns, 0), api.ErrShape)
				wantNoInverse(t, (&maker{state: 4}).matrix(rows, columns), api.ErrShape)
			}
		}
	}
}

func TestRank(t *testing.T) {
	for _, c := range []struct {
		m    [][]byte
		want int
	}{
		{nil, 0},
		{[][]byte{}, 0},
		{[][]byte{{}}, 0},
		{[][]byte{nil, {}, nil}, 0},
		{[][]byte{{0}}, 0},
		{[][]byte{{7}}, 1},
		{[][]byte{{0, 0, 0}, {0, 0, 0}}, 0},
		{[][]byte{{0, 0, 9}}, 1},
		{[][]byte{{0}, {0}, {9}}, 1},
		{[][]byte{{1, 2}, {1, 2}}, 1},
		{[][]byte{{1, 2}, {3, 6}}, 1},
		{[][]byte{{1, 2}, {3, 5}}, 2},
		{[][]byte{{0, 1, 3}, {0, 1, 3}, {3, 1, 1}}, 2},
		{[][]byte{{1, 0, 1}, {0, 1, 1}, {1, 1, 0}}, 2},
		{[][]byte{{0, 0, 1}, {0, 1, 0}, {1, 0, 0}, {1, 1, 1}}, 3},
	} {
		got, err := matrix.Rank(c.m)
		wantTold(t, "Rank", err, api.OK)
		wantRank(t, fmt.Sprint("Rank of ", c.m), got, c.want)
	}
}

func TestManyRanks(t *testing.T) {
	m := &maker{state: 5}
	for rows := range 13 {
		for columns := range 13 {
			for rank := range min(rows, columns) + 1 {
				a := m.ofRank(rows, columns, rank)
				got, err := matrix.Rank(a)
				wantTold(t, "Rank", err, api.OK)
				wantRank(t, fmt.Sprint("Rank of ", a), got, rank)
			}
		}
	}
}

func TestRankIsThatOfTheGreatestMinor(t *testing.T) {
	m := &maker{state: 6}
	for rows := 1; rows <= 3; rows++ {
		for columns := 1; columns <= 4; columns++ {
			for range 60 {
				small := m.matrix(rows, columns)
				for _, row := range small {
					for k := range row {
						row[k] %= 3
					}
				}
				got, err := matrix.Rank(small)
				wantTold(t, "Rank", err, api.OK)
				wantRank(t, fmt.Sprint("Rank of ", small), got, rankByMinors(small, columns))
			}
		}
	}
}

func TestCauchy(t *testing.T) {
	got, err := matrix.Cauchy([]byte{26, 15, 52}, []byte{29, 13, 43})
	wantTold(t, "Cauchy", err, api.OK)
	wantMatrix(t, "Cauchy", got, [][]byte{{186, 102, 137}, {192, 142, 96}, {208, 34, 42}})
	got, err = matrix.Cauchy([]byte{0, 255}, []byte{1})
	wantTold(t, "Cauchy of 0", err, api.OK)
	wantMatrix(t, "Cauchy of 0", got, [][]byte{{1}, {126}})
}

func TestManyOfCauchy(t *testing.T) {
	m := &maker{state: 7}
	for rows := range 13 {
		for columns := range 13 {
			all := m.distinct(rows + columns)
			x, y := all[:rows], all[rows:]
			got, err := matrix.Cauchy(x, y)
			wantTold(t, "Cauchy", err, api.OK)
			if len(got) != rows {
				t.Fatalf("Cauchy of %v and %v is %v", x, y, got)
			}
			for i, row := range got {
				if len(row) != columns {
					t.Fatalf("Cauchy of %v and %v is %v", x, y, got)
				}
				for k, e := range row {
					if field.Mul(e, x[i]^y[k]) != 1 {
						t.Errorf("Cauchy of %v and %v has %d in row %d, column %d", x, y, e, i, k)
					}
				}
			}
			if rows == columns && rows > 0 {
				wantInverse(t, got)
			}
		}
	}
}

// wantNoCauchy holds it both ways round.
func wantNoCauchy(t *testing.T, x, y []byte, want api.Errno) {
	t.Helper()
	for _, pair := range [][2][]byte{{x, y}, {y, x}} {
		got, err := matrix.Cauchy(pair[0], pair[1])
		wantTold(t, fmt.Sprint("Cauchy of ", pair), err, want)
		wantMatrix(t, fmt.Sprint("Cauchy of ", pair), got, nil)
	}
}

func TestCauchyOfTooMany(t *testing.T) {
	all := (&maker{state: 8}).distinct(256)
	for _, n := range []int{13, 14, 200} {
		for _, other := range []int{0, 1, 12, 13, 56} {
			wantNoCauchy(t, all[:n], all[n:n+other], api.ErrFull)
		}
	}
	for _, n := range []int{256, 257, 70_000} {
		wantNoCauchy(t, make([]byte, n), nil, api.ErrFull)
	}
}

func TestCauchyOfAnElementTwice(t *testing.T) {
	for e := range 256 {
		a, b, c := byte(e), byte(e+1), byte(e+2)
		wantNoCauchy(t, []byte{a, a}, nil, api.ErrClash)
		wantNoCauchy(t, []byte{a, b, a}, []byte{c}, api.ErrClash)
		wantNoCauchy(t, []byte{a}, []byte{a}, api.ErrClash)
		wantNoCauchy(t, []byte{b, a}, []byte{c, a}, api.ErrClash)
		wantNoCauchy(t, []byte{a, b}, []byte{a, b}, api.ErrClash)
	}
	m := &maker{state: 9}
	for i := range 24 {
		for k := range i {
			all := m.distinct(24)
			all[i] = all[k]
			wantNoCauchy(t, all[:12], all[12:], api.ErrClash)
		}
	}
}

// ErrFull is named ahead of ErrClash.
func TestCauchyTellsTooManyAheadOfClash(t *testing.T) {
	wantNoCauchy(t, make([]byte, 13), nil, api.ErrFull)
	wantNoCauchy(t, []byte{1, 1}, (&maker{state: 10}).distinct(13), api.ErrFull)
	wantNoCauchy(t, make([]byte, 13), make([]byte, 13), api.ErrFull)
}

// held is a list with other things behind its length in the same memory, and a copy of all of that.
type held struct{ list, memory, before []byte }

func hold(list []byte) held {
	memory := append(slices.Clone(list), 0xaa, 0, 0x55, 1, 0xff)
	return held{memory[:len(list)], memory, slices.Clone(memory)}
}

func (h held) wantUntouched(t *testing.T, what string) {
	t.Helper()
	if !bytes.Equal(h.memory, h.before) {
		t.Errorf("%s: what was handed in became %v, was %v", what, h.memory, h.before)
	}
}

// heldRows is a matrix of which each row is held, with other rows behind the last one.
type heldRows struct {
	list, memory [][]byte
	rows         []held
}

func holdRows(m [][]byte) heldRows {
	var h heldRows
	for _, row := range append(slices.Clone(m), []byte{1, 2, 3}, nil, []byte{9}) {
		h.rows = append(h.rows, hold(row))
	}
	for _, row := range h.rows {
		h.memory = append(h.memory, row.list)
	}
	h.list = h.memory[:len(m)]
	return h
}

func (h heldRows) wantUntouched(t *testing.T, what string) {
	t.Helper()
	for i, row := range h.rows {
		row.wantUntouched(t, what)
		if len(h.memory[i]) != len(row.list) || &h.memory[i][:1][0] != &row.memory[0] {
			t.Errorf("%s: another row stands at %d", what, i)
		}
	}
}

// overwrite changes all that was handed in.
func (h heldRows) overwrite() {
	for i, row := range h.rows {
		clear(row.memory)
		h.memory[i] = nil
	}
}

// outcome is all that the package answers of its arguments.
func outcome(a, b [][]byte, x, y []byte) [][][]byte {
	unit, _ := matrix.Identity(len(x))
	product, _ := matrix.Mul(a, b)
	inverse, _ := matrix.Inverse(a)
	rank, _ := matrix.Rank(a)
	told := plain.Told(matrix.Check(a))
	cauchy, _ := matrix.Cauchy(x, y)
	return [][][]byte{unit, product, inverse, {{byte(rank), byte(told)}}, cauchy}
}

func copied(all [][][]byte) [][][]byte {
	var out [][][]byte
	for _, m := range all {
		var rows [][]byte
		for _, row := range m {
			rows = append(rows, slices.Clone(row))
		}
		out = append(out, rows)
	}
	return out
}

// argumentsOfMemory are such as let a careless call hand a row out again, or swap rows that were handed in.
func argumentsOfMemory(m *maker) [][2][][]byte {
	out := [][2][][]byte{{nil, nil}, {unit(3), unit(3)}, {unit(2), {{5, 6}, {7, 8}}}, {{{5, 6}, {7, 8}}, unit(2)},
		{{{0, 1}, {1, 0}}, {{0, 1}, {1, 0}}}, {{nil, {}}, nil}, {{{1}, {1, 2}}, unit(2)}, {unit(2), {{1}, {1, 2}}},
		{grid(13, 13, 3), unit(12)}, {grid(2, 2, 0), grid(3, 3, 0)}, {unit(12), grid(12, 12, 3)}}
	for range 60 {
		n := m.below(13)
		out = append(out, [2][][]byte{m.matrix(n, n), m.matrix(n, m.below(13))})
		out = append(out, [2][][]byte{m.matrix(m.below(13), n), m.matrix(n, m.below(13))})
	}
	return out
}

func TestWhatIsHandedInStays(t *testing.T) {
	m := &maker{state: 11}
	for _, pair := range argumentsOfMemory(m) {
		xs, ys := m.distinct(m.below(14)), m.distinct(m.below(3))
		want := outcome(pair[0], pair[1], xs, ys)
		a, b, x, y := holdRows(pair[0]), holdRows(pair[1]), hold(xs), hold(ys)
		got := outcome(a.list, b.list, x.list, y.list)
		a.wantUntouched(t, "a")
		b.wantUntouched(t, "b")
		x.wantUntouched(t, "x")
		y.wantUntouched(t, "y")
		for i := range got {
			wantMatrix(t, "with other things behind the length", got[i], want[i])
		}
		a.overwrite()
		b.overwrite()
		clear(x.memory)
		clear(y.memory)
		for i := range got {
			wantMatrix(t, "after what was handed in was written into", got[i], want[i])
		}
	}
}

// wantOwnMemory writes into each row to the end of its memory, and holds that no other row tells it.
func wantOwnMemory(t *testing.T, all [][][]byte) {
	t.Helper()
	before := copied(all)
	for i, m := range all {
		for k, row := range m {
			for j := range row[:cap(row)] {
				row[:cap(row)][j] ^= 0xff
			}
			for j := range row {
				before[i][k][j] ^= 0xff
			}
			for j := range all {
				wantMatrix(t, "after another row was written into", all[j], before[j])
			}
		}
	}
}

func TestWhatComesOutIsFresh(t *testing.T) {
	m := &maker{state: 12}
	for _, pair := range argumentsOfMemory(m) {
		a, b, x, y := holdRows(pair[0]), holdRows(pair[1]), hold(m.distinct(7)), hold(m.distinct(2))
		got := outcome(a.list, b.list, x.list, y.list)
		want := copied(got)
		wantOwnMemory(t, got)
		for _, answer := range got {
			clear(answer[:cap(answer)])
		}
		a.wantUntouched(t, "a, after the answers were written into")
		b.wantUntouched(t, "b, after the answers were written into")
		x.wantUntouched(t, "x, after the answers were written into")
		y.wantUntouched(t, "y, after the answers were written into")
		again := outcome(a.list, b.list, x.list, y.list)
		for i := range again {
			wantMatrix(t, "after the answers were written into", again[i], want[i])
		}
	}
}

func TestOneMatrixOnBothSides(t *testing.T) {
	h := holdRows([][]byte{{5, 6}, {7, 8}})
	got, err := matrix.Mul(h.list, h.list)
	wantTold(t, "Mul of one matrix twice", err, api.OK)
	wantMatrix(t, "Mul of one matrix twice", got, times(h.list, h.list, 2))
	h.wantUntouched(t, "one matrix twice")
}

// A list that stands as several rows is read as often.
func TestOneListAsSeveralRows(t *testing.T) {
	row := hold([]byte{5, 6})
	m := [][]byte{row.list, row.list}
	wantNoInverse(t, m, api.ErrNone)
	rank, err := matrix.Rank(m)
	wantTold(t, "Rank of one list twice", err, api.OK)
	wantRank(t, "Rank of one list twice", rank, 1)
	product, err := matrix.Mul(m, unit(2))
	wantTold(t, "Mul of one list twice", err, api.OK)
	wantMatrix(t, "Mul of one list twice", product, m)
	row.wantUntouched(t, "one list twice")
}

func TestNothingAndNilAreTheSame(t *testing.T) {
	for _, b := range [][][]byte{nil, {}, {nil}, {{}}, unit(2)} {
		none, empty := outcome(nil, b, nil, nil), outcome([][]byte{}, b, []byte{}, []byte{})
		for i := range none {
			wantMatrix(t, "of an empty list", empty[i], none[i])
		}
		none, empty = outcome([][]byte{nil, nil}, b, []byte{1}, nil), outcome([][]byte{{}, {}}, b, []byte{1}, []byte{})
		for i := range none {
			wantMatrix(t, "of empty rows", empty[i], none[i])
		}
	}
}

func TestErrorsAreTheNumbersOfThePromise(t *testing.T) {
	_, out := matrix.Identity(0)
	shape := matrix.Check([][]byte{nil, {1}})
	full := matrix.Check(make([][]byte, 13))
	_, none := matrix.Inverse([][]byte{{0}})
	_, clash := matrix.Cauchy([]byte{1}, []byte{1})
	for i, err := range []error{out, shape, full, none, clash} {
		if want := []api.Errno{1, 3, 4, 5, 7}[i]; plain.Told(err) != want {
			t.Errorf("told %d, want %d", plain.Told(err), want)
		}
	}
}
