package layout_test

import (
	"fmt"
	"math"
	"slices"
	"testing"

	"paritymill/api"
	"paritymill/layout"
	"paritymill/plain"
)

// The bounds are written out, so that they share no number with the program.
const (
	fewest, most = 3, 10
	rows         = 20
)

// outside are numbers that are none of disks, rows or blocks.
var outside = []int{-1, -2, -3, -10, -20, -256, math.MinInt32, math.MinInt + 1, math.MinInt}

// noArrays are numbers of disks that no array has.
var noArrays = []int{0, 1, 2, 11, 12, 13, 255, 256, 259, 1<<32 + 3, math.MaxInt32, math.MaxInt - 1, math.MaxInt}

// noRows are rows that no array has.
var noRows = []int{20, 21, 30, 255, 256, 1 << 32, math.MaxInt32, math.MaxInt - 1, math.MaxInt}

// table has the whole of an array: of each row what each disk has, made by walking from disk to disk.
func table(n int) [][]int {
	out := make([][]int, rows)
	p := n - 1
	for row := range out {
		out[row] = make([]int, n)
		at := p
		for _, role := range roles(n) {
			out[row][at] = role
			if at++; at == n {
				at = 0
			}
		}
		// P stands one disk ahead of where it stood in the row before.
		if p--; p < 0 {
			p = n - 1
		}
	}
	return out
}

// roles of a row, from P on.
func roles(n int) []int {
	out := []int{-1, -2}
	for role := range n - 2 {
		out = append(out, role)
	}
	return out
}

func wantTold(t *testing.T, what string, err error, want api.Errno) {
	t.Helper()
	if plain.Told(err) != want || err == nil != (want == api.OK) {
		t.Errorf("%s: error %v, want %v", what, err, want)
	}
}

func wantCheck(t *testing.T, n int, told api.Errno) {
	t.Helper()
	wantTold(t, fmt.Sprintf("Check of %d", n), layout.Check(n), told)
}

func wantData(t *testing.T, n, block int, want api.Spot, told api.Errno) {
	t.Helper()
	got, err := layout.Data(n, block)
	what := fmt.Sprintf("Data of %d, %d", n, block)
	wantTold(t, what, err, told)
	if got != want {
		t.Errorf("%s: %v, want %v", what, got, want)
	}
}

func wantRole(t *testing.T, n int, s api.Spot, want int, told api.Errno) {
	t.Helper()
	got, err := layout.Role(n, s)
	what := fmt.Sprintf("Role of %d, %v", n, s)
	wantTold(t, what, err, told)
	if got != want {
		t.Errorf("%s: %d, want %d", what, got, want)
	}
}

func wantBlock(t *testing.T, n int, s api.Spot, want int, told api.Errno) {
	t.Helper()
	got, err := layout.Block(n, s)
	what := fmt.Sprintf("Block of %d, %v", n, s)
	wantTold(t, what, err, told)
	if got != want {
		t.Errorf("%s: %d, want %d", what, got, want)
	}
}

func wantOrder(t *testing.T, n, row int, want []int, told api.Errno) {
	t.Helper()
	got, err := layout.Order(n, row)
	what := fmt.Sprintf("Order of %d, %d", n, row)
	wantTold(t, what, err, told)
	if !slices.Equal(got, want) {
		t.Errorf("%s: %v, want %v", what, got, want)
	}
}

// wantNoSpot is it of Role and of Block.
func wantNoSpot(t *testing.T, n int, s api.Spot) {
	t.Helper()
	wantRole(t, n, s, 0, api.ErrRange)
	wantBlock(t, n, s, 0, api.ErrRange)
}

func TestCheck(t *testing.T) {
	for n := fewest; n <= most; n++ {
		wantCheck(t, n, api.OK)
	}
	for _, n := range slices.Concat(outside, noArrays) {
		wantCheck(t, n, api.ErrRange)
	}
}

// Four disks by hand, as the chapter says it:
//
//	row 0: 0 1 2 3 are Q, data 0, data 1, P
//	row 1: 0 1 2 3 are data 0, data 1, P, Q
//	row 2: 0 1 2 3 are data 1, P, Q, data 0
//	row 3: 0 1 2 3 are P, Q, data 0, data 1
//	row 4 is as row 0
func TestFourDisks(t *testing.T) {
	for row, want := range [][]int{{-2, 0, 1, -1}, {0, 1, -1, -2}, {1, -1, -2, 0}, {-1, -2, 0, 1}, {-2, 0, 1, -1}} {
		for disk, role := range want {
			wantRole(t, 4, api.Spot{Disk: disk, Row: row}, role, api.OK)
		}
	}
	for block, want := range []api.Spot{{Disk: 1, Row: 0}, {Disk: 2, Row: 0}, {Disk: 0, Row: 1}, {Disk: 1, Row: 1}, {Disk: 3, Row: 2}, {Disk: 0, Row: 2}, {Disk: 2, Row: 3}, {Disk: 3, Row: 3}, {Disk: 1, Row: 4}} {
		wantData(t, 4, block, want, api.OK)
		wantBlock(t, 4, want, block, api.OK)
	}
	for row, want := range [][]int{{1, 2, 3, 0}, {0, 1, 2, 3}, {3, 0, 1, 2}, {2, 3, 0, 1}, {1, 2, 3, 0}} {
		wantOrder(t, 4, row, want, api.OK)
	}
}

// P of a row is where the chapter counts it, with the modulo that is never below 0.
func TestWherePStands(t *testing.T) {
	for n := fewest; n <= most; n++ {
		for row := range rows {
			p := n - 1 - row
			for p < 0 {
				p += n
			}
			wantRole(t, n, api.Spot{Disk: p, Row: row}, api.IsP, api.OK)
			wantRole(t, n, api.Spot{Disk: (p + 1) % n, Row: row}, api.IsQ, api.OK)
		}
	}
}

func TestRoleOfAllSpots(t *testing.T) {
	for n := fewest; n <= most; n++ {
		for row, disks := range table(n) {
			for disk, role := range disks {
				wantRole(t, n, api.Spot{Disk: disk, Row: row}, role, api.OK)
			}
		}
	}
}

// All blocks, counted row by row, are where Data says, and Block counts them back.
func TestAllBlocks(t *testing.T) {
	for n := fewest; n <= most; n++ {
		block := 0
		for row, disks := range table(n) {
			for role := range n - 2 {
				s := api.Spot{Disk: slices.Index(disks, role), Row: row}
				wantData(t, n, block, s, api.OK)
				wantBlock(t, n, s, block, api.OK)
				block++
			}
		}
		wantData(t, n, block, api.Spot{}, api.ErrRange)
	}
}

func TestBlockOfParity(t *testing.T) {
	for n := fewest; n <= most; n++ {
		for row, disks := range table(n) {
			wantBlock(t, n, api.Spot{Disk: slices.Index(disks, -1), Row: row}, 0, api.ErrNone)
			wantBlock(t, n, api.Spot{Disk: slices.Index(disks, -2), Row: row}, 0, api.ErrNone)
		}
	}
}

func TestOrderOfAllRows(t *testing.T) {
	for n := fewest; n <= most; n++ {
		for row, disks := range table(n) {
			var want []int
			for _, role := range append(roles(n)[2:], -1, -2) {
				want = append(want, slices.Index(disks, role))
			}
			wantOrder(t, n, row, want, api.OK)
		}
	}
}

func TestDataOfNoBlock(t *testing.T) {
	for n := fewest; n <= most; n++ {
		all := rows * (n - 2)
		wantData(t, n, all-1, api.Spot{Disk: (n - 1 - 19%n + n - 1) % n, Row: 19}, api.OK)
		for _, block := range append([]int{all, all + 1, all + n - 3, all + n - 2, 10 * all, 1 << 32, math.MaxInt32, math.MaxInt - 1, math.MaxInt}, outside...) {
			wantData(t, n, block, api.Spot{}, api.ErrRange)
		}
	}
}

func TestNoSpot(t *testing.T) {
	for n := fewest; n <= most; n++ {
		noDisks := append([]int{n, n + 1, 2 * n, 256, 1 << 32, math.MaxInt32, math.MaxInt - 1, math.MaxInt}, outside...)
		for _, disk := range noDisks {
			for row := range rows {
				wantNoSpot(t, n, api.Spot{Disk: disk, Row: row})
			}
			for _, row := range slices.Concat(outside, noRows) {
				wantNoSpot(t, n, api.Spot{Disk: disk, Row: row})
			}
		}
		for _, row := range slices.Concat(outside, noRows) {
			for disk := range n {
				wantNoSpot(t, n, api.Spot{Disk: disk, Row: row})
			}
		}
	}
}

func TestOrderOfNoRow(t *testing.T) {
	for n := fewest; n <= most; n++ {
		for _, row := range slices.Concat(outside, noRows) {
			wantOrder(t, n, row, nil, api.ErrRange)
		}
	}
}

// What is wrong with the array is told, whatever else is asked: also where a spot would have P or Q.
func TestNoArray(t *testing.T) {
	asked := slices.Concat([]int{0, 1, 2, 9, 10, 19}, outside, noRows)
	for _, n := range slices.Concat(outside, noArrays) {
		for _, a := range asked {
			wantData(t, n, a, api.Spot{}, api.ErrRange)
			wantOrder(t, n, a, nil, api.ErrRange)
			wantNoSpot(t, n, api.Spot{Disk: n - 1, Row: a})
			for _, b := range asked {
				wantNoSpot(t, n, api.Spot{Disk: a, Row: b})
			}
		}
	}
}

// A list that came out is the caller's: what is written into it is seen in no other one.
func TestOrderIsFresh(t *testing.T) {
	for n := fewest; n <= most; n++ {
		for row := range rows {
			first, _ := layout.Order(n, row)
			second, _ := layout.Order(n, row)
			want := slices.Clone(second)
			all := first[:cap(first)]
			for i := range all {
				all[i] = -7
			}
			if !slices.Equal(second, want) {
				t.Errorf("Order of %d, %d: %v shares memory with another answer", n, row, second)
			}
			wantOrder(t, n, row, want, api.OK)
		}
	}
}

// outcome is all that the package answers.
type outcome struct {
	spot        api.Spot
	role, block int
	order       string
	told        [5]api.Errno
}

func outcomeOf(n, block int, s api.Spot) outcome {
	spot, first := layout.Data(n, block)
	role, second := layout.Role(n, s)
	which, third := layout.Block(n, s)
	order, fourth := layout.Order(n, s.Row)
	told := [5]api.Errno{plain.Told(layout.Check(n)), plain.Told(first), plain.Told(second), plain.Told(third), plain.Told(fourth)}
	return outcome{spot, role, which, fmt.Sprint(order), told}
}

// What one call was asked is nothing to the next one, right or wrong.
func TestCallsDoNotHangOnEachOther(t *testing.T) {
	type asked struct {
		n, block int
		s        api.Spot
	}
	var all []asked
	for n := -1; n <= 12; n++ {
		for block := -1; block <= 170; block += 9 {
			for row := -1; row <= 21; row++ {
				all = append(all, asked{n, block, api.Spot{Disk: (block + row) % 12, Row: row}})
			}
		}
	}
	var first []outcome
	for _, a := range all {
		first = append(first, outcomeOf(a.n, a.block, a.s))
	}
	for i := len(all) - 1; i >= 0; i-- {
		if got := outcomeOf(all[i].n, all[i].block, all[i].s); got != first[i] {
			t.Errorf("%v asked again: %v, want %v", all[i], got, first[i])
		}
	}
}

func TestErrorsAreTheNumbersOfThePromise(t *testing.T) {
	_, none := layout.Block(3, api.Spot{Disk: 2})
	for i, err := range []error{layout.Check(2), none} {
		if want := []api.Errno{1, 5}[i]; plain.Told(err) != want {
			t.Errorf("told %d, want %d", plain.Told(err), want)
		}
	}
}
