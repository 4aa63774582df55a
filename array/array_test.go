package array_test

import (
	"fmt"
	"math"
	"slices"
	"strings"
	"testing"
	"unsafe"

	"paritymill/api"
	"paritymill/array"
	"paritymill/plain"
)

// The bounds are written out, so that they share no number with the program.
const (
	fewest, most       = 3, 10
	mostRows, mostSize = 20, 16
)

// below are numbers that are none of disks, rows, sizes or blocks.
var below = []int{-1, -2, -3, -10, -16, -20, -256, math.MinInt32, math.MinInt + 1, math.MinInt}

// above are numbers that no array has as many disks, rows, bytes of a block or blocks as.
var above = []int{161, 255, 256, 259, 1<<32 + 3, math.MaxInt32, math.MaxInt - 1, math.MaxInt}

// outside are numbers that none of so many is.
func outside(count int) []int {
	return slices.Concat([]int{count, count + 1, 2*count + 1}, below, above)
}

// maker makes the same numbers in each run.
type maker struct{ state uint64 }

func (m *maker) below(n int) int {
	m.state = m.state*6364136223846793005 + 1442695040888963407
	return int(m.state>>33) % n
}

func (m *maker) block(size int) string {
	b := make([]byte, size)
	for i := range b {
		b[i] = byte(m.below(256))
	}
	return string(b)
}

func wantTold(t *testing.T, what string, err error, want api.Errno) {
	t.Helper()
	if plain.Told(err) != want || err == nil != (want == api.OK) {
		t.Errorf("%s: error %v, want %v", what, err, want)
	}
}

func wantNew(t *testing.T, n, rows, size int) *array.Array {
	t.Helper()
	a, err := array.New(n, rows, size)
	if err != nil || a == nil {
		t.Fatalf("New of %d, %d, %d: %v, error %v", n, rows, size, a, err)
	}
	return a
}

func wantNoNew(t *testing.T, n, rows, size int) {
	t.Helper()
	a, err := array.New(n, rows, size)
	what := fmt.Sprintf("New of %d, %d, %d", n, rows, size)
	wantTold(t, what, err, api.ErrRange)
	if a != nil {
		t.Errorf("%s: an array comes with the error", what)
	}
}

func wantRead(t *testing.T, a *array.Array, block int, want string, told api.Errno) {
	t.Helper()
	got, err := a.Read(block)
	wantTold(t, fmt.Sprintf("Read of %d", block), err, told)
	if got != want {
		t.Errorf("Read of %d: %q, want %q", block, got, want)
	}
}

func wantLost(t *testing.T, a *array.Array, row, want int, told api.Errno) {
	t.Helper()
	got, err := a.Lost(row)
	wantTold(t, fmt.Sprintf("Lost of %d", row), err, told)
	if got != want {
		t.Errorf("Lost of %d: %d, want %d", row, got, want)
	}
}

func wantRaw(t *testing.T, a *array.Array, row int, parts []string, lost []bool, told api.Errno) {
	t.Helper()
	gotParts, gotLost, err := a.Raw(row)
	wantTold(t, fmt.Sprintf("Raw of %d", row), err, told)
	if !slices.Equal(gotParts, parts) || !slices.Equal(gotLost, lost) {
		t.Errorf("Raw of %d: %q %v, want %q %v", row, gotParts, gotLost, parts, lost)
	}
}

func wantRebuild(t *testing.T, a *array.Array, d, want int, told api.Errno) {
	t.Helper()
	got, err := a.Rebuild(d)
	wantTold(t, fmt.Sprintf("Rebuild of %d", d), err, told)
	if got != want {
		t.Errorf("Rebuild of %d: %d, want %d", d, got, want)
	}
}

// both does the same with an array and its model, and holds one against the other.
type both struct {
	a *array.Array
	m *model
}

func newBoth(t *testing.T, n, rows, size int) both {
	t.Helper()
	x := both{wantNew(t, n, rows, size), modelOf(n, rows, size)}
	x.wantAll(t)
	return x
}

// wantAll holds all that can be told of the array, without changing it, against the model.
func (x both) wantAll(t *testing.T) {
	t.Helper()
	for block := -1; block <= x.m.rows*(x.m.n-2); block++ {
		want, told := x.m.read(block)
		wantRead(t, x.a, block, want, told)
	}
	for row := -1; row <= x.m.rows; row++ {
		parts, lost, told := x.m.raw(row)
		wantRaw(t, x.a, row, parts, lost, told)
		count, told := x.m.lost(row)
		wantLost(t, x.a, row, count, told)
	}
	if t.Failed() {
		t.FailNow()
	}
}

func (x both) write(t *testing.T, block int, b string) {
	t.Helper()
	wantTold(t, fmt.Sprintf("Write of %d, %q", block, b), x.a.Write(block, b), x.m.write(block, b))
}

func (x both) fail(t *testing.T, d int) {
	t.Helper()
	wantTold(t, fmt.Sprintf("Fail of %d", d), x.a.Fail(d), x.m.fail(d))
}

func (x both) replace(t *testing.T, d int) {
	t.Helper()
	wantTold(t, fmt.Sprintf("Replace of %d", d), x.a.Replace(d), x.m.replace(d))
}

func (x both) rebuild(t *testing.T, d int) {
	t.Helper()
	left, told := x.m.rebuild(d)
	wantRebuild(t, x.a, d, left, told)
}

func (x both) poke(t *testing.T, d, row int, b string) {
	t.Helper()
	wantTold(t, fmt.Sprintf("Poke of %d, %d, %q", d, row, b), x.a.Poke(d, row, b), x.m.poke(d, row, b))
}

// fill writes each block once.
func (x both) fill(t *testing.T, m *maker) {
	t.Helper()
	for block := range x.m.rows * (x.m.n - 2) {
		x.write(t, block, m.block(x.m.size))
	}
}

// filled has an array of which each block was written, and some disks have failed.
func filled(t *testing.T, m *maker, n, rows, size int, failed ...int) both {
	t.Helper()
	x := newBoth(t, n, rows, size)
	x.fill(t, m)
	for _, d := range failed {
		x.fail(t, d)
	}
	x.wantAll(t)
	return x
}

func TestNewIsOfNoughts(t *testing.T) {
	for n := fewest; n <= most; n++ {
		for rows := 1; rows <= mostRows; rows++ {
			for size := 1; size <= mostSize; size++ {
				newBoth(t, n, rows, size)
			}
		}
	}
}

func TestNewOfWhatMayNotBe(t *testing.T) {
	noArrays := append([]int{0, 1, 2}, outside(most+1)...)
	noRows, noSizes := append([]int{0}, outside(mostRows+1)...), append([]int{0}, outside(mostSize+1)...)
	for _, n := range noArrays {
		for rows := 1; rows <= mostRows; rows++ {
			wantNoNew(t, n, rows, min(rows, mostSize))
		}
	}
	for n := fewest; n <= most; n++ {
		for _, rows := range noRows {
			wantNoNew(t, n, rows, 1)
			wantNoNew(t, n, rows, mostSize)
		}
		for _, size := range noSizes {
			wantNoNew(t, n, 1, size)
			wantNoNew(t, n, mostRows, size)
		}
	}
	for i := range min(len(noArrays), len(noRows), len(noSizes)) {
		wantNoNew(t, noArrays[i], noRows[i], noSizes[i])
		wantNoNew(t, 3, noRows[i], noSizes[i])
		wantNoNew(t, noArrays[i], 1, noSizes[i])
	}
}

// Numbers worked out by hand: 4 disks, so that in row 0 data is on 1 and 2, P on 3 and Q on 0, and in row 1 data on 0 and 1, P on 2 and Q on 3.
func TestByHand(t *testing.T) {
	a := wantNew(t, 4, 2, 2)
	none := make([]bool, 4)
	wantTold(t, "Write", a.Write(0, "\xb8\xb9"), api.OK)
	wantTold(t, "Write", a.Write(1, "\x96\x97"), api.OK)
	wantTold(t, "Write", a.Write(3, "\x01\x80"), api.OK)
	wantRaw(t, a, 0, []string{"\xb8\xb9", "\x96\x97", "\x2e\x2e", "\x89\x8a"}, none, api.OK)
	wantRaw(t, a, 1, []string{"\x00\x00", "\x01\x80", "\x01\x80", "\x02\x1d"}, none, api.OK)
	wantTold(t, "Fail", a.Fail(0), api.OK)
	wantTold(t, "Fail", a.Fail(1), api.OK)
	wantRaw(t, a, 0, []string{"", "\x96\x97", "\x2e\x2e", ""}, []bool{true, false, false, true}, api.OK)
	wantRaw(t, a, 1, []string{"", "", "\x01\x80", "\x02\x1d"}, []bool{true, true, false, false}, api.OK)
	wantRead(t, a, 0, "\xb8\xb9", api.OK)
	wantRead(t, a, 2, "\x00\x00", api.OK)
	wantRead(t, a, 3, "\x01\x80", api.OK)
	wantTold(t, "Write", a.Write(2, "\x03\x00"), api.OK)
	wantRaw(t, a, 1, []string{"", "", "\x02\x80", "\x01\x1d"}, []bool{true, true, false, false}, api.OK)
	wantTold(t, "Replace", a.Replace(1), api.OK)
	wantRebuild(t, a, 1, 1, api.OK)
	wantRaw(t, a, 0, []string{"\xb8\xb9", "\x96\x97", "\x2e\x2e", ""}, []bool{false, false, false, true}, api.OK)
	wantLost(t, a, 0, 1, api.OK)
	wantLost(t, a, 1, 2, api.OK)
	wantRebuild(t, a, 1, 0, api.OK)
	wantRaw(t, a, 1, []string{"", "\x01\x80", "\x02\x80", "\x01\x1d"}, []bool{true, false, false, false}, api.OK)
	wantRebuild(t, a, 1, 0, api.ErrState)
}

// Which disk has which part, in orders that are written out.
func TestOrderOfRaw(t *testing.T) {
	a := wantNew(t, 5, 6, 1)
	for row, order := range [][]int{{1, 2, 3, 4, 0}, {0, 1, 2, 3, 4}, {4, 0, 1, 2, 3}, {3, 4, 0, 1, 2}, {2, 3, 4, 0, 1}, {1, 2, 3, 4, 0}} {
		var want []string
		for _, d := range order {
			wantTold(t, "Poke", a.Poke(d, row, string(rune('a'+d))), api.OK)
			want = append(want, string(rune('a'+d)))
		}
		wantRaw(t, a, row, want, make([]bool, 5), api.OK)
	}
}

// In arrays of all shapes each block is what was written last, and P and Q are those of the data.
func TestWhatIsWrittenIsRead(t *testing.T) {
	m := &maker{1}
	for n := fewest; n <= most; n++ {
		for rows := 1; rows <= mostRows; rows++ {
			x := filled(t, m, n, rows, 1+m.below(mostSize))
			for block := rows*(n-2) - 1; block >= 0; block-- {
				x.write(t, block, m.block(x.m.size))
			}
			x.wantAll(t)
		}
	}
	for size := 1; size <= mostSize; size++ {
		filled(t, m, 4, 5, size)
	}
}

// A Write changes its block, P and Q of its row, and nothing else.
func TestWriteOfOne(t *testing.T) {
	m := &maker{2}
	for n := fewest; n <= most; n++ {
		x := filled(t, m, n, 3, 2)
		for block := range 3 * (n - 2) {
			x.write(t, block, m.block(2))
			x.wantAll(t)
		}
	}
}

func TestAllBytes(t *testing.T) {
	a := wantNew(t, 3, 16, 16)
	for block := range 16 {
		b := make([]byte, 16)
		for i := range b {
			b[i] = byte(16*block + i)
		}
		wantTold(t, "Write", a.Write(block, string(b)), api.OK)
	}
	wantTold(t, "Fail", a.Fail(1), api.OK)
	for block := range 16 {
		got, err := a.Read(block)
		wantTold(t, "Read", err, api.OK)
		for i := range got {
			if got[i] != byte(16*block+i) {
				t.Errorf("Read of %d: byte %d is %d", block, i, got[i])
			}
		}
	}
}

// Whatever disks have failed: what can be read is, what can be written is, and the rest is told to be lost.
func TestAllThatMayBeLost(t *testing.T) {
	m := &maker{3}
	for n := fewest; n <= most; n++ {
		for failed := range 1 << n {
			x := filled(t, m, n, min(n, 5), 2)
			for d := range n {
				if failed>>d&1 == 1 {
					x.fail(t, d)
				}
			}
			x.wantAll(t)
			for range 3 {
				x.write(t, m.below(x.m.rows*(n-2)), m.block(2))
			}
			x.wantAll(t)
		}
	}
}

// Of any two disks that fail nothing is lost that was written, before or then, and both are built again.
func TestTwoFailAndAreBuilt(t *testing.T) {
	m := &maker{4}
	for n := fewest; n <= most; n++ {
		for one := range n {
			for other := range one {
				x := filled(t, m, n, n+1, 3, one, other)
				x.fill(t, m)
				x.wantAll(t)
				x.replace(t, one)
				x.replace(t, other)
				for range n + 1 {
					x.rebuild(t, one)
					x.rebuild(t, other)
				}
				x.wantAll(t)
				for row := range n + 1 {
					wantLost(t, x.a, row, 0, api.OK)
				}
			}
		}
	}
}

// Where P and Q are the only ones that are lost, data is written, and P and Q come to be those of it.
func TestWriteWithoutPAndQ(t *testing.T) {
	m := &maker{5}
	x := filled(t, m, 5, 1, 4, 4, 0)
	x.write(t, 1, "abcd")
	wantRead(t, x.a, 1, "abcd", api.OK)
	x.wantAll(t)
	for _, d := range []int{4, 0} {
		x.replace(t, d)
		x.rebuild(t, d)
		x.wantAll(t)
	}
}

// A block that is lost is written by what it changes in P and Q, and is lost still.
func TestWriteOfWhatIsLost(t *testing.T) {
	m := &maker{6}
	x := filled(t, m, 6, 2, 3, 1, 2)
	for block := range 2 {
		x.write(t, block, m.block(3))
		x.wantAll(t)
	}
	parts, lost, _ := x.a.Raw(0)
	if parts[0] != "" || parts[1] != "" || !lost[0] || !lost[1] {
		t.Errorf("Raw: %q %v, want the first two lost", parts, lost)
	}
	// Nor is it written where a new disk stands that is not built up to there.
	x.replace(t, 1)
	x.replace(t, 2)
	x.write(t, 0, "new")
	x.wantAll(t)
	wantLost(t, x.a, 0, 2, api.OK)
	x.rebuild(t, 1)
	x.wantAll(t)
	x.write(t, 0, "old")
	x.wantAll(t)
	parts, _, _ = x.a.Raw(0)
	if parts[0] != "old" {
		t.Errorf("Raw: %q, want what was written first", parts)
	}
}

// With three lost, what is there is read, and nothing else is done.
func TestMoreThanTwoAreLost(t *testing.T) {
	m := &maker{7}
	x := filled(t, m, 5, 2, 2, 1, 2, 0)
	wantRead(t, x.a, 0, "", api.ErrLost)
	wantRead(t, x.a, 1, "", api.ErrLost)
	wantLost(t, x.a, 0, 3, api.OK)
	there, _ := x.m.read(2)
	wantRead(t, x.a, 2, there, api.OK)
	for block := range 6 {
		wantTold(t, "Write", x.a.Write(block, "ab"), api.ErrLost)
		x.wantAll(t)
	}
	x.replace(t, 1)
	for range 3 {
		wantRebuild(t, x.a, 1, 0, api.ErrLost)
		x.wantAll(t)
	}
	// What is there may go wrong by itself all the same.
	x.poke(t, 3, 0, "zz")
	x.wantAll(t)
	wantRead(t, x.a, 2, "zz", api.OK)
}

// All disks fail: nothing is there, and new ones have nothing to be built by.
func TestAllAreLost(t *testing.T) {
	m := &maker{8}
	for n := fewest; n <= most; n++ {
		x := filled(t, m, n, 2, 1)
		for d := range n {
			x.fail(t, d)
		}
		x.wantAll(t)
		wantLost(t, x.a, 1, n, api.OK)
		wantRead(t, x.a, 0, "", api.ErrLost)
		for d := range n {
			x.replace(t, d)
			wantRebuild(t, x.a, d, 0, api.ErrLost)
		}
		x.wantAll(t)
		wantLost(t, x.a, 1, n, api.OK)
		wantRaw(t, x.a, 0, make([]string, n), slices.Repeat([]bool{true}, n), api.OK)
	}
}

// Row by row: rows that are built are there, though others of the same disk are not, and serve to build another disk.
func TestRebuildRowByRow(t *testing.T) {
	m := &maker{9}
	x := filled(t, m, 5, 4, 2, 0, 3)
	x.replace(t, 0)
	x.replace(t, 3)
	x.rebuild(t, 0)
	x.rebuild(t, 3)
	x.rebuild(t, 0)
	x.wantAll(t)
	x.fail(t, 1)
	for row, want := range []int{1, 2, 3, 3} {
		wantLost(t, x.a, row, want, api.OK)
	}
	x.wantAll(t)
	wantRebuild(t, x.a, 0, 0, api.ErrLost)
	x.wantAll(t)
	x.rebuild(t, 3)
	wantRebuild(t, x.a, 3, 0, api.ErrLost)
	x.wantAll(t)
	x.replace(t, 1)
	x.rebuild(t, 1)
	x.rebuild(t, 1)
	wantRebuild(t, x.a, 1, 0, api.ErrLost)
	x.wantAll(t)
}

func TestRebuildTellsHowManyAreLeft(t *testing.T) {
	m := &maker{10}
	for rows := 1; rows <= mostRows; rows++ {
		x := filled(t, m, 4, rows, 2, 2)
		x.replace(t, 2)
		for left := rows - 1; left >= 0; left-- {
			wantRebuild(t, x.a, 2, left, api.OK)
			x.m.rebuild(2)
			x.wantAll(t)
		}
		wantRebuild(t, x.a, 2, 0, api.ErrState)
		x.wantAll(t)
	}
}

func TestRebuildOfWhatIsNotToBeBuilt(t *testing.T) {
	m := &maker{11}
	x := filled(t, m, 5, 2, 2, 3)
	for d := range 5 {
		wantRebuild(t, x.a, d, 0, api.ErrState)
	}
	x.wantAll(t)
	x.fail(t, 0)
	x.fail(t, 1)
	for d := range 5 {
		wantRebuild(t, x.a, d, 0, api.ErrState)
	}
	x.wantAll(t)
}

// A disk that fails while it is built is built from row 0 on again.
func TestFailWhileItIsBuilt(t *testing.T) {
	m := &maker{12}
	x := filled(t, m, 4, 3, 2, 1)
	for range 3 {
		x.replace(t, 1)
		wantTold(t, "Replace again", x.a.Replace(1), api.ErrState)
		x.rebuild(t, 1)
		x.rebuild(t, 1)
		x.wantAll(t)
		x.fail(t, 1)
		wantRebuild(t, x.a, 1, 0, api.ErrState)
		x.wantAll(t)
	}
	x.replace(t, 1)
	x.wantAll(t)
	for left := 2; left >= 0; left-- {
		wantRebuild(t, x.a, 1, left, api.OK)
		x.m.rebuild(1)
		x.wantAll(t)
	}
}

func TestFailAndReplaceOfWhatIsNotSo(t *testing.T) {
	m := &maker{13}
	x := filled(t, m, 4, 2, 2)
	for d := range 4 {
		wantTold(t, "Replace", x.a.Replace(d), api.ErrState)
		x.wantAll(t)
		x.fail(t, d)
		wantTold(t, "Fail again", x.a.Fail(d), api.ErrState)
		x.wantAll(t)
		x.replace(t, d)
		wantTold(t, "Replace again", x.a.Replace(d), api.ErrState)
		x.wantAll(t)
		x.rebuild(t, d)
		x.rebuild(t, d)
		wantTold(t, "Replace of one that is built", x.a.Replace(d), api.ErrState)
		x.wantAll(t)
	}
}

func TestNoSuchDisk(t *testing.T) {
	m := &maker{14}
	for n := fewest; n <= most; n++ {
		x := filled(t, m, n, 2, 2, 0)
		for _, d := range outside(n) {
			wantTold(t, "Fail", x.a.Fail(d), api.ErrRange)
			wantTold(t, "Replace", x.a.Replace(d), api.ErrRange)
			wantRebuild(t, x.a, d, 0, api.ErrRange)
			wantTold(t, "Poke", x.a.Poke(d, 0, "ab"), api.ErrRange)
		}
		x.wantAll(t)
	}
}

func TestNoSuchRow(t *testing.T) {
	m := &maker{15}
	for rows := 1; rows <= mostRows; rows++ {
		x := filled(t, m, 4, rows, 2, 1)
		for _, row := range append(outside(rows), mostRows) {
			wantLost(t, x.a, row, 0, api.ErrRange)
			wantRaw(t, x.a, row, nil, nil, api.ErrRange)
			wantTold(t, "Poke", x.a.Poke(0, row, "ab"), api.ErrRange)
		}
		x.wantAll(t)
	}
}

func TestNoSuchBlock(t *testing.T) {
	m := &maker{16}
	for n := fewest; n <= most; n++ {
		for _, rows := range []int{1, 2, mostRows - 1, mostRows} {
			x := filled(t, m, n, rows, 2, 1)
			for _, block := range append(outside(rows*(n-2)), rows*(n-1), rows*n, mostRows*(n-2)) {
				wantRead(t, x.a, block, "", api.ErrRange)
				wantTold(t, "Write", x.a.Write(block, "ab"), api.ErrRange)
			}
			x.wantAll(t)
		}
	}
}

func TestAnotherSize(t *testing.T) {
	m := &maker{17}
	for size := 1; size <= mostSize; size++ {
		x := filled(t, m, 4, 2, size, 0)
		for _, other := range []int{0, 1, size - 1, size + 1, 2 * size, 15, 16, 17, 256 + size} {
			if other == size {
				continue
			}
			b := m.block(other)
			for block := range 4 {
				wantTold(t, "Write", x.a.Write(block, b), api.ErrShape)
			}
			wantTold(t, "Poke", x.a.Poke(1, 1, b), api.ErrShape)
		}
		x.wantAll(t)
	}
}

// Of several errors the first one of the chapter is told.
func TestWhichErrorIsTold(t *testing.T) {
	m := &maker{18}
	x := filled(t, m, 5, 2, 2, 0, 1, 2)
	x.replace(t, 2)
	for _, b := range []string{"", "a", "abc"} {
		for _, block := range []int{-1, 6, math.MinInt, math.MaxInt} {
			wantTold(t, "Write", x.a.Write(block, b), api.ErrRange)
		}
		for block := range 6 {
			wantTold(t, "Write", x.a.Write(block, b), api.ErrShape)
		}
		for d := range 5 {
			wantTold(t, "Poke", x.a.Poke(d, -1, b), api.ErrRange)
			wantTold(t, "Poke", x.a.Poke(d, 2, b), api.ErrRange)
			wantTold(t, "Poke", x.a.Poke(d, 1, b), api.ErrShape)
		}
		wantTold(t, "Poke", x.a.Poke(-1, 0, b), api.ErrRange)
		wantTold(t, "Poke", x.a.Poke(5, 0, b), api.ErrRange)
	}
	for d := range 3 {
		wantTold(t, "Poke", x.a.Poke(d, 2, "ab"), api.ErrRange)
		wantTold(t, "Poke", x.a.Poke(d, 1, "ab"), api.ErrState)
	}
	// Failed and built ones are told to be so, though more than two are lost.
	for d, told := range []api.Errno{api.ErrState, api.ErrState, api.ErrLost, api.ErrState, api.ErrState} {
		wantRebuild(t, x.a, d, 0, told)
	}
	x.wantAll(t)
}

// Poke changes what one disk has, be it data, P or Q, and leaves the rest of the row wrong.
func TestPoke(t *testing.T) {
	m := &maker{19}
	for n := fewest; n <= most; n++ {
		x := filled(t, m, n, n+1, 2)
		for row := range n + 1 {
			for d := range n {
				x.poke(t, d, row, m.block(2))
				x.wantAll(t)
			}
		}
	}
}

func TestPokeOfWhatIsLost(t *testing.T) {
	m := &maker{20}
	x := filled(t, m, 4, 2, 2, 1)
	wantTold(t, "Poke", x.a.Poke(1, 0, "ab"), api.ErrState)
	x.wantAll(t)
	x.replace(t, 1)
	for row := range 2 {
		wantTold(t, "Poke", x.a.Poke(1, row, "ab"), api.ErrState)
		x.wantAll(t)
	}
	x.rebuild(t, 1)
	x.poke(t, 1, 0, "ab")
	wantTold(t, "Poke", x.a.Poke(1, 1, "ab"), api.ErrState)
	x.wantAll(t)
	wantRead(t, x.a, 0, "ab", api.OK)
}

// Where something is wrong, what is lost is read by P, and by Q only where P is lost.
func TestReadByPAheadOfQ(t *testing.T) {
	made := func() *array.Array {
		a := wantNew(t, 4, 1, 1)
		wantTold(t, "Write", a.Write(0, "\x05"), api.OK)
		wantTold(t, "Write", a.Write(1, "\x03"), api.OK)
		return a
	}
	// Data is on 1 and 2, P on 3, Q on 0.
	a := made()
	wantTold(t, "Poke", a.Poke(0, 0, "\xff"), api.OK)
	wantTold(t, "Fail", a.Fail(2), api.OK)
	wantRead(t, a, 1, "\x03", api.OK)
	a = made()
	wantTold(t, "Poke", a.Poke(3, 0, "\x15"), api.OK)
	wantTold(t, "Fail", a.Fail(2), api.OK)
	wantRead(t, a, 1, "\x10", api.OK)
	wantTold(t, "Fail", a.Fail(3), api.OK)
	wantRead(t, a, 1, "\x03", api.OK)
}

// Write leaves P and Q those of the data, whatever they were.
func TestWriteWhereSomethingIsWrong(t *testing.T) {
	m := &maker{21}
	for n := fewest; n <= most; n++ {
		for d := range n {
			x := filled(t, m, n, n, 2)
			for row := range n {
				x.poke(t, d, row, m.block(2))
				x.write(t, row*(n-2)+m.below(n-2), m.block(2))
				parts, _, _ := x.a.Raw(row)
				if p, q := parityOf(parts[:n-2], 2); parts[n-2] != p || parts[n-1] != q {
					t.Errorf("%d disks, row %d: P and Q %q are not those of %q", n, row, parts[n-2:], parts[:n-2])
				}
			}
			x.wantAll(t)
		}
	}
}

// Rebuild changes what its disk has, and does not mend what another one has.
func TestRebuildWhereSomethingIsWrong(t *testing.T) {
	m := &maker{22}
	for n := fewest; n <= most; n++ {
		for d := range n {
			for other := range n {
				x := filled(t, m, n, 3, 2)
				for row := range 3 {
					x.poke(t, other, row, m.block(2))
				}
				x.fail(t, d)
				x.wantAll(t)
				x.replace(t, d)
				for range 3 {
					x.rebuild(t, d)
				}
				x.wantAll(t)
			}
		}
	}
}

// Long rows of calls, right and wrong, answer as the model says.
func TestManySteps(t *testing.T) {
	m := &maker{23}
	for range 300 {
		n, rows, size := fewest+m.below(most-fewest+1), 1+m.below(5), 1+m.below(4)
		if m.below(20) == 0 {
			rows, size = 1+m.below(mostRows), 1+m.below(mostSize)
		}
		x := newBoth(t, n, rows, size)
		for range 80 {
			x.anyStep(t, m)
			x.wantAll(t)
		}
	}
}

func (x both) anyStep(t *testing.T, m *maker) {
	t.Helper()
	d, row, block, size := m.below(x.m.n), m.below(x.m.rows), m.below(x.m.rows*(x.m.n-2)), x.m.size
	if m.below(10) == 0 {
		d, row, block, size = d*3-3, row*3-3, block*3-3, m.below(mostSize+3)
	}
	switch m.below(16) {
	case 0:
		x.fail(t, d)
	case 1, 2:
		x.replace(t, m.below(x.m.n))
	case 3, 4, 5, 6, 7:
		x.rebuild(t, d)
	case 8:
		x.poke(t, d, row, m.block(size))
	default:
		x.write(t, block, m.block(size))
	}
}

// Two arrays have nothing in common.
func TestArraysAreApart(t *testing.T) {
	m := &maker{24}
	x, y := newBoth(t, 4, 3, 5), newBoth(t, 4, 3, 5)
	x.fill(t, m)
	y.wantAll(t)
	y.fill(t, m)
	x.wantAll(t)
	x.fail(t, 2)
	y.wantAll(t)
	y.fail(t, 1)
	x.replace(t, 2)
	x.rebuild(t, 2)
	y.wantAll(t)
	y.poke(t, 0, 1, "other")
	x.wantAll(t)
}

// A text over memory that changes shows whether it was kept: none is.
func TestWhatIsHandedInIsNotKept(t *testing.T) {
	for _, failed := range []int{-1, 0, 1, 2, 3} {
		a := wantNew(t, 4, 1, 4)
		if failed >= 0 {
			wantTold(t, "Fail", a.Fail(failed), api.OK)
		}
		memory := []byte("abcdrest")
		wantTold(t, "Write", a.Write(0, unsafe.String(&memory[0], 4)), api.OK)
		if string(memory) != "abcdrest" {
			t.Errorf("Write changed what it was handed: %q", memory)
		}
		copy(memory, "zzzzzzzz")
		wantRead(t, a, 0, "abcd", api.OK)
	}
	a := wantNew(t, 4, 1, 4)
	memory := []byte("abcdrest")
	wantTold(t, "Poke", a.Poke(1, 0, unsafe.String(&memory[0], 4)), api.OK)
	if string(memory) != "abcdrest" {
		t.Errorf("Poke changed what it was handed: %q", memory)
	}
	copy(memory, "zzzzzzzz")
	wantRead(t, a, 0, "abcd", api.OK)
}

// What came out stays as it is, whatever is done with the array, and what is done with it does not reach the array.
func TestWhatComesOutIsFresh(t *testing.T) {
	m := &maker{25}
	x := filled(t, m, 4, 2, 8, 1)
	parts, lost, _ := x.a.Raw(0)
	again, lostAgain, _ := x.a.Raw(0)
	clear(again[:cap(again)])
	for i := range lostAgain {
		lostAgain[i] = true
	}
	x.wantAll(t)
	wantParts, wantFlags, _ := x.m.raw(0)
	if !slices.Equal(parts, wantParts) || !slices.Equal(lost, wantFlags) {
		t.Errorf("Raw: two answers share memory: %q %v", parts, lost)
	}
	for block := range 4 {
		first, _ := x.a.Read(block)
		second, _ := x.a.Read(block)
		if unsafe.StringData(first) == unsafe.StringData(second) {
			t.Errorf("Read of %d: answers share memory", block)
		}
		kept := strings.Clone(first)
		x.write(t, block, m.block(8))
		if first != kept || second != kept {
			t.Errorf("Read of %d: what was read changed: %q, %q, want %q", block, first, second, kept)
		}
	}
	keptParts, keptFlags := slices.Clone(wantParts), slices.Clone(wantFlags)
	x.replace(t, 1)
	x.rebuild(t, 1)
	x.fail(t, 3)
	if !slices.Equal(parts, keptParts) || !slices.Equal(lost, keptFlags) {
		t.Errorf("Raw: what came out changed: %q %v", parts, lost)
	}
}

func TestErrorsAreTheNumbersOfThePromise(t *testing.T) {
	a := wantNew(t, 3, 1, 1)
	_, noBlock := a.Read(1)
	noSize, notFailed := a.Write(0, ""), a.Replace(0)
	for d := range 3 {
		wantTold(t, "Fail", a.Fail(d), api.OK)
	}
	for i, err := range []error{noBlock, noSize, notFailed, a.Write(0, "a")} {
		if want := []api.Errno{1, 3, 6, 8}[i]; plain.Told(err) != want {
			t.Errorf("told %d, want %d", plain.Told(err), want)
		}
	}
}
