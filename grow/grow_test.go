package grow_test

import (
	"fmt"
	"math"
	"slices"
	"strings"
	"testing"
	"unsafe"

	"paritymill/api"
	"paritymill/grow"
	"paritymill/plain"
)

// below are numbers that are none of cells and of disks.
var below = []int{-1, -2, -9, -10, -40, -256, -65536, math.MinInt32, -1 << 32, math.MinInt + 1, math.MinInt}

// longs are sizes that no cell has; some of them look like others where they are cut to a byte or two.
var longs = []int{17, 18, 32, 255, 256, 257, 272, 65536, 65540}

// noWides are numbers of disks that none grows from.
var noWides = append([]int{0, 10, 11, 20, 40, 255, 256, 257, 65537, 1 << 32, 1<<32 + 1, math.MaxInt32, 1 << 62, math.MaxInt - 1, math.MaxInt}, below...)

// noCells are numbers of which there is no cell, if there are count of them.
func noCells(count int) []int {
	return append([]int{count, count + 1, count + 9, count + 40, 255, 256, 257, 65536, 1 << 32, 1<<32 + 1, math.MaxInt32, math.MaxInt - 1, math.MaxInt}, below...)
}

// maker makes the same numbers in each run.
type maker struct{ state uint64 }

func (m *maker) below(n int) int {
	m.state = m.state*6364136223846793005 + 1442695040888963407
	return int(m.state>>33) % n
}

func (m *maker) block(size int) string {
	b := make([]byte, size)
	for i := range b {
		b[i] = byte(m.below(256))
	}
	return string(b)
}

// any block that a cell may have.
func (m *maker) any() string {
	return m.block(m.below(mostSize + 1))
}

// cells so many, of any sizes.
func (m *maker) cells(count int) (out []string) {
	for range count {
		out = append(out, m.any())
	}
	return out
}

// longest is made once, since many long ones are asked for.
var longest = strings.Repeat("x", 65540)

func long(size int) string {
	return longest[:size]
}

// letters so many, each a cell of its own.
func letters(count int) (out []string) {
	for i := range count {
		out = append(out, string(rune('A'+i)))
	}
	return out
}

// drawn are disks as words: of each row its bytes, a dot for none, and a dash for a disk without rows.
func drawn(disks [][]string) string {
	var words []string
	for _, rows := range disks {
		word := ""
		for _, b := range rows {
			word += b
			if b == "" {
				word += "."
			}
		}
		if len(rows) == 0 {
			word = "-"
		}
		words = append(words, word)
	}
	return strings.Join(words, " ")
}

func isSame(a, b [][]string) bool {
	return slices.EqualFunc(a, b, slices.Equal)
}

func copied(disks [][]string) (out [][]string) {
	for _, rows := range disks {
		out = append(out, slices.Clone(rows))
	}
	return out
}

// isTold tells that an error is the one that is wanted, and nil where none is.
func isTold(err error, want api.Errno) bool {
	return plain.Told(err) == want && err == nil == (want == api.OK)
}

func wantNew(t *testing.T, wide int, cells ...string) *grow.Grow {
	t.Helper()
	g, err := grow.New(cells, wide)
	if g == nil || err != nil {
		t.Fatalf("New of %q on %d: %v, error %v", cells, wide, g, err)
	}
	return g
}

func wantNoNew(t *testing.T, cells []string, wide int, told api.Errno) {
	t.Helper()
	if g, err := grow.New(cells, wide); g != nil || !isTold(err, told) {
		t.Errorf("New of %d on %d: %v, error %v, want nil, %v", len(cells), wide, g, err, told)
	}
}

func wantStep(t *testing.T, g *grow.Grow, want bool, told api.Errno) {
	t.Helper()
	if got, err := g.Step(); got != want || !isTold(err, told) {
		t.Errorf("Step: %v, error %v, want %v, %v", got, err, want, told)
	}
}

func wantRead(t *testing.T, g *grow.Grow, i int, want string, told api.Errno) {
	t.Helper()
	if got, err := g.Read(i); got != want || !isTold(err, told) {
		t.Errorf("Read of %d: %q, error %v, want %q, %v", i, got, err, want, told)
	}
}

func wantWrite(t *testing.T, g *grow.Grow, i int, b string, told api.Errno) {
	t.Helper()
	if err := g.Write(i, b); !isTold(err, told) {
		t.Errorf("Write of %d, %d bytes: error %v, want %v", i, len(b), err, told)
	}
}

func wantDone(t *testing.T, g *grow.Grow, want int) {
	t.Helper()
	if got := g.Done(); got != want {
		t.Errorf("Done: %d, want %d", got, want)
	}
}

func wantDisks(t *testing.T, g *grow.Grow, want [][]string) {
	t.Helper()
	if got := g.Disks(); !isSame(got, want) {
		t.Errorf("Disks: %q, want %q", got, want)
	}
}

func wantDrawn(t *testing.T, g *grow.Grow, want string) {
	t.Helper()
	if got := drawn(g.Disks()); got != want {
		t.Errorf("Disks: %s, want %s", got, want)
	}
}

func wantCells(t *testing.T, g *grow.Grow, want ...string) {
	t.Helper()
	for i, b := range want {
		wantRead(t, g, i, b, api.OK)
	}
	wantRead(t, g, len(want), "", api.ErrRange)
}

// both does the same with a grow and its model, and holds one against the other.
type both struct {
	g *grow.Grow
	m *model
}

func newBoth(t *testing.T, wide int, cells ...string) both {
	t.Helper()
	x := both{wantNew(t, wide, cells...), modelOf(cells, wide)}
	x.same(t)
	return x
}

func (x both) same(t *testing.T) {
	t.Helper()
	wantDone(t, x.g, x.m.moved)
	wantDisks(t, x.g, x.m.rows())
}

func (x both) step(t *testing.T) {
	t.Helper()
	want, told := x.m.step()
	wantStep(t, x.g, want, told)
	x.same(t)
}

func (x both) read(t *testing.T, i int) {
	t.Helper()
	want, told := x.m.read(i)
	wantRead(t, x.g, i, want, told)
	x.same(t)
}

func (x both) readAll(t *testing.T) {
	t.Helper()
	for i := range x.m.count {
		x.read(t, i)
	}
}

func (x both) write(t *testing.T, i int, b string) {
	t.Helper()
	wantWrite(t, x.g, i, b, x.m.write(i, b))
	x.same(t)
}

// finish moves all that are left, and one more.
func (x both) finish(t *testing.T) {
	t.Helper()
	for range x.m.count - x.m.moved + 1 {
		x.step(t)
	}
	wantDone(t, x.g, x.m.count)
}

func TestBoundsAreThoseOfTheChapter(t *testing.T) {
	if api.MaxCells != mostCells || api.MaxSize != mostSize || api.MaxDisks-1 != mostWide {
		t.Errorf("MaxCells, MaxSize, MaxDisks: %d, %d, %d, want %d, %d, %d", api.MaxCells, api.MaxSize, api.MaxDisks, mostCells, mostSize, mostWide+1)
	}
}

// As many cells as there may be, on as many disks: none is moved, and each stands where it is to stand.
func TestNew(t *testing.T) {
	m := &maker{1}
	for count := range mostCells + 1 {
		for wide := 1; wide <= mostWide; wide++ {
			cells := m.cells(count)
			g := wantNew(t, wide, cells...)
			wantDone(t, g, 0)
			wantCells(t, g, cells...)
			want := make([][]string, wide+1)
			for i, b := range cells {
				want[i%wide] = append(want[i%wide], b)
			}
			wantDisks(t, g, want)
			wantDone(t, g, 0)
		}
	}
}

// Cells of all sizes that may be, wherever they stand.
func TestNewOfAllSizes(t *testing.T) {
	m := &maker{2}
	for size := range mostSize + 1 {
		for _, count := range []int{1, 2, 39, 40} {
			for at := range count {
				cells := make([]string, count)
				cells[at] = m.block(size)
				wantCells(t, wantNew(t, 1, cells...), cells...)
				wantCells(t, wantNew(t, 9, cells...), cells...)
			}
		}
	}
}

// Too many is told ahead of too long, wherever that one stands, and ahead of disks that may not be.
func TestNewOfTooMany(t *testing.T) {
	for _, count := range []int{41, 42, 80, 255, 256, 257, 296, 65536} {
		cells := make([]string, count)
		for wide := 1; wide <= mostWide; wide++ {
			wantNoNew(t, cells, wide, api.ErrFull)
		}
		for _, at := range []int{0, 39, 40, count - 1} {
			cells[at] = long(17)
			wantNoNew(t, cells, 1, api.ErrFull)
			wantNoNew(t, cells, 9, api.ErrFull)
			for _, wide := range noWides {
				wantNoNew(t, cells, wide, api.ErrFull)
			}
		}
		for _, wide := range noWides {
			wantNoNew(t, make([]string, count), wide, api.ErrFull)
		}
	}
}

func TestNewOfLongCells(t *testing.T) {
	for _, count := range []int{1, 2, 7, 39, 40} {
		for at := range count {
			for _, size := range longs {
				cells := make([]string, count)
				cells[at] = long(size)
				for _, wide := range []int{0, 1, 5, 9, 10} {
					wantNoNew(t, cells, wide, api.ErrRange)
				}
			}
		}
	}
}

func TestNewOfNoSuchDisks(t *testing.T) {
	for _, wide := range noWides {
		for _, count := range []int{0, 1, 9, 10, 39, 40} {
			wantNoNew(t, make([]string, count), wide, api.ErrRange)
		}
		wantNoNew(t, []string{"a", long(17)}, wide, api.ErrRange)
	}
}

// Written out by hand: what the chapter says, one after another.
func TestByHand(t *testing.T) {
	g := wantNew(t, 2, letters(7)...)
	wantDone(t, g, 0)
	wantDrawn(t, g, "ACEG BDF -")
	for k, want := range []string{
		"ACEG BDF -", "ACEG BDF -", "A.EG BDF C", "ADEG B.F C", "AD.G BEF C", "AD.G BE CF", "ADG BE CF",
	} {
		wantStep(t, g, k < 6, api.OK)
		wantDone(t, g, k+1)
		wantDrawn(t, g, want)
		wantCells(t, g, letters(7)...)
	}
	wantStep(t, g, false, api.ErrState)
	wantDone(t, g, 7)
	wantDrawn(t, g, "ADG BE CF")
	wantWrite(t, g, 5, "x", api.OK)
	wantDrawn(t, g, "ADG BE Cx")
}

// From one disk to two: each move but the first leaves a place behind it.
func TestByHandFromOneDisk(t *testing.T) {
	g := wantNew(t, 1, letters(5)...)
	wantDrawn(t, g, "ABCDE -")
	for k, want := range []string{"ABCDE -", "A.CDE B", "AC.DE B", "AC..E BD", "ACE BD"} {
		wantStep(t, g, k < 4, api.OK)
		wantDrawn(t, g, want)
	}
	wantStep(t, g, false, api.ErrState)
	wantDrawn(t, g, "ACE BD")
}

// From the most disks that may be: with all cells, whose last row is not full ahead of it, and is behind it.
func TestByHandToTheMostDisks(t *testing.T) {
	x := newBoth(t, 9, letters(40)...)
	wantDrawn(t, x.g, "AJS\\e BKT]f CLU^g DMV_h ENW` FOXa GPYb HQZc IR[d -")
	x.finish(t)
	wantDrawn(t, x.g, "AKU_ BLV` CMWa DNXb EOYc FPZd GQ[e HR\\f IS]g JT^h")
}

// Writes in between, of cells that have moved, of the next one, and of one that has not.
func TestWritesByHand(t *testing.T) {
	g := wantNew(t, 2, letters(6)...)
	for range 3 {
		wantStep(t, g, true, api.OK)
	}
	wantDrawn(t, g, "A.E BDF C")
	wantWrite(t, g, 2, "c", api.OK)
	wantDrawn(t, g, "A.E BDF c")
	wantWrite(t, g, 3, "d", api.OK)
	wantDrawn(t, g, "A.E BdF c")
	wantWrite(t, g, 5, "f", api.OK)
	wantDrawn(t, g, "A.E Bdf c")
	wantStep(t, g, true, api.OK)
	wantDrawn(t, g, "AdE B.f c")
	wantWrite(t, g, 3, "1", api.OK)
	wantWrite(t, g, 0, "", api.OK)
	wantDrawn(t, g, ".1E B.f c")
	wantStep(t, g, true, api.OK)
	wantDrawn(t, g, ".1 BEf c")
	wantStep(t, g, false, api.OK)
	wantDrawn(t, g, ".1 BE cf")
	wantCells(t, g, "", "B", "c", "1", "E", "f")
}

// Fewer cells than disks, as many, and more, ahead of it, behind each Step, and behind the last one.
func TestFewCells(t *testing.T) {
	rows := []struct {
		wide, count int
		want        []string
	}{
		{3, 0, []string{"- - - -"}},
		{3, 1, []string{"A - - -", "A - - -"}},
		{3, 2, []string{"A B - -", "A B - -", "A B - -"}},
		{3, 3, []string{"A B C -", "A B C -", "A B C -", "A B C -"}},
		{3, 4, []string{"AD B C -", "AD B C -", "AD B C -", "AD B C -", "A B C D"}},
		{3, 5, []string{"AD BE C -", "AD BE C -", "AD BE C -", "AD BE C -", "A BE C D", "AE B C D"}},
		{1, 0, []string{"- -"}},
		{1, 1, []string{"A -", "A -"}},
		{1, 2, []string{"AB -", "AB -", "A B"}},
		{1, 3, []string{"ABC -", "ABC -", "A.C B", "AC B"}},
		{9, 1, []string{"A - - - - - - - - -", "A - - - - - - - - -"}},
		{2, 3, []string{"AC B -", "AC B -", "AC B -", "A B C"}},
		{2, 4, []string{"AC BD -", "AC BD -", "AC BD -", "A BD C", "AD B C"}},
	}
	for _, row := range rows {
		g := wantNew(t, row.wide, letters(row.count)...)
		for k, want := range row.want {
			if k > 0 {
				wantStep(t, g, k < row.count, api.OK)
			}
			wantDone(t, g, k)
			wantDrawn(t, g, want)
		}
		wantStep(t, g, false, api.ErrState)
		wantDone(t, g, row.count)
		wantDrawn(t, g, row.want[row.count])
	}
}

// A cell of no bytes stands in its place all the same: the rows reach up to it, and no further when it has gone.
func TestCellsOfNoBytesStand(t *testing.T) {
	g := wantNew(t, 2, "", "", "", "", "")
	for k, want := range []string{"... .. -", "... .. -", "... .. -", "... .. .", "... . .", ".. .. ."} {
		if k > 0 {
			wantStep(t, g, k < 5, api.OK)
		}
		wantDrawn(t, g, want)
	}
	for wide := 1; wide <= mostWide; wide++ {
		for count := range mostCells + 1 {
			x := newBoth(t, wide, make([]string, count)...)
			x.finish(t)
		}
	}
}

// What the last row of a disk has is written to no bytes: the row is there still.
func TestWriteOfNoBytesLeavesTheRow(t *testing.T) {
	g := wantNew(t, 2, letters(3)...)
	wantWrite(t, g, 2, "", api.OK)
	wantDrawn(t, g, "A. B -")
	wantStep(t, g, true, api.OK)
	wantStep(t, g, true, api.OK)
	wantDrawn(t, g, "A. B -")
	wantWrite(t, g, 1, "", api.OK)
	wantDrawn(t, g, "A. . -")
	wantStep(t, g, false, api.OK)
	wantDrawn(t, g, "A . .")
	wantWrite(t, g, 2, "C", api.OK)
	wantDrawn(t, g, "A . C")
	wantWrite(t, g, 2, "", api.OK)
	wantDrawn(t, g, "A . .")
}

// The cells of the first row stand where they stood: their moves change nothing that the disks tell.
func TestSamePlace(t *testing.T) {
	m := &maker{3}
	for wide := 1; wide <= mostWide; wide++ {
		for _, count := range []int{wide, wide + 1, mostCells} {
			cells := m.cells(count)
			g := wantNew(t, wide, cells...)
			was := g.Disks()
			for i := range wide {
				wantStep(t, g, i+1 < count, api.OK)
				wantDone(t, g, i+1)
				wantDisks(t, g, was)
				wantCells(t, g, cells...)
			}
			if count > wide {
				wantStep(t, g, wide+1 < count, api.OK)
				if isSame(g.Disks(), was) {
					t.Errorf("cell %d of %d has not left its place", wide, count)
				}
			}
		}
	}
}

// All that may be: wherever each cell stands, behind each Step, by the numbers of the chapter.
func TestEachPlaceBehindEachStep(t *testing.T) {
	m := &maker{4}
	for wide := 1; wide <= mostWide; wide++ {
		for count := range mostCells + 1 {
			cells := m.cells(count)
			g := wantNew(t, wide, cells...)
			for done := range count + 1 {
				if done > 0 {
					wantStep(t, g, done < count, api.OK)
				}
				wantDone(t, g, done)
				wantPlaces(t, g.Disks(), cells, wide, done)
			}
			wantStep(t, g, false, api.ErrState)
			wantPlaces(t, g.Disks(), cells, wide, count)
		}
	}
}

// wantPlaces that each cell stands where it is to stand, and that there is nothing else.
func wantPlaces(t *testing.T, disks [][]string, cells []string, wide, done int) {
	t.Helper()
	if len(disks) != wide+1 {
		t.Fatalf("%d disks, want %d", len(disks), wide+1)
	}
	stands := map[api.Spot]bool{}
	for i, b := range cells {
		at := api.Spot{Disk: i % wide, Row: i / wide}
		if i < done {
			at = api.Spot{Disk: i % (wide + 1), Row: i / (wide + 1)}
		}
		if stands[at] {
			t.Fatalf("two cells stand at %v", at)
		}
		stands[at] = true
		if at.Row >= len(disks[at.Disk]) || disks[at.Disk][at.Row] != b {
			t.Errorf("cell %d, %d moved, is not at %v: %q", i, done, at, disks)
		}
	}
	for d, rows := range disks {
		for r, b := range rows {
			if b != "" && !stands[api.Spot{Disk: d, Row: r}] {
				t.Errorf("%d moved: no cell stands in row %d of disk %d, which has %q", done, r, d, b)
			}
		}
		if last := len(rows) - 1; last >= 0 && !stands[api.Spot{Disk: d, Row: last}] {
			t.Errorf("%d moved: no cell stands in the last row %d of disk %d", done, last, d)
		}
	}
}

// In the end they stand as if there had been one more disk all the while.
func TestInTheEnd(t *testing.T) {
	m := &maker{5}
	for wide := 1; wide < mostWide; wide++ {
		for count := range mostCells + 1 {
			cells := m.cells(count)
			g, other := wantNew(t, wide, cells...), wantNew(t, wide+1, cells...)
			for i := range cells {
				wantStep(t, g, i+1 < count, api.OK)
			}
			wantDisks(t, g, other.Disks()[:wide+1])
		}
	}
}

// A Step of the first cell, of each, of the last one, and more: whether there are more to move.
func TestStep(t *testing.T) {
	m := &maker{6}
	for wide := 1; wide <= mostWide; wide++ {
		for count := range mostCells + 1 {
			cells := m.cells(count)
			g := wantNew(t, wide, cells...)
			for i := range cells {
				wantDone(t, g, i)
				wantStep(t, g, i != count-1, api.OK)
				wantCells(t, g, cells...)
			}
			was := g.Disks()
			for range 3 {
				wantDone(t, g, count)
				wantStep(t, g, false, api.ErrState)
				wantDisks(t, g, was)
				wantCells(t, g, cells...)
			}
			wantDone(t, g, count)
		}
	}
}

// What is refused is not made up for: one that has moved all stays so, whatever is written.
func TestStepBehindTheLast(t *testing.T) {
	g := wantNew(t, 1, "a", "b")
	wantStep(t, g, true, api.OK)
	wantStep(t, g, false, api.OK)
	for k := range 300 {
		wantStep(t, g, false, api.ErrState)
		wantDone(t, g, 2)
		b := fmt.Sprint(k)
		wantWrite(t, g, k%2, b, api.OK)
		wantRead(t, g, k%2, b, api.OK)
	}
	wantDisks(t, g, [][]string{{"298"}, {"299"}})
}

func TestNoCellsAtAll(t *testing.T) {
	for wide := 1; wide <= mostWide; wide++ {
		for _, cells := range [][]string{nil, {}} {
			g := wantNew(t, wide, cells...)
			for range 3 {
				wantDone(t, g, 0)
				wantDisks(t, g, make([][]string, wide+1))
				wantStep(t, g, false, api.ErrState)
				for _, i := range noCells(0) {
					wantRead(t, g, i, "", api.ErrRange)
					wantWrite(t, g, i, "", api.ErrRange)
					wantWrite(t, g, i, "a", api.ErrRange)
					wantWrite(t, g, i, long(17), api.ErrRange)
				}
			}
		}
	}
}

// Each cell is written, behind each Step, with each other one as it was: those that have moved, the next one, and those that have not.
func TestWriteOfEach(t *testing.T) {
	m := &maker{7}
	for _, wide := range []int{1, 2, 3, 8, 9} {
		for _, count := range []int{1, 2, 3, 9, 10, 11, 39, 40} {
			x := newBoth(t, wide, m.cells(count)...)
			for range count + 1 {
				for i := range count {
					x.write(t, i, m.any())
					x.read(t, i)
				}
				x.readAll(t)
				x.step(t)
			}
		}
	}
}

// One cell is written once, at each time, and all are read behind each Step from then on.
func TestWriteOfOne(t *testing.T) {
	m := &maker{8}
	for wide := 1; wide <= mostWide; wide++ {
		for _, count := range []int{1, 2, 10, 23} {
			for i := range count {
				for at := range count + 1 {
					cells := m.cells(count)
					g := wantNew(t, wide, cells...)
					for done := range count + 1 {
						if done == at {
							cells[i] = m.any()
							wantWrite(t, g, i, cells[i], api.OK)
						}
						if done >= at {
							wantCells(t, g, cells...)
							wantPlaces(t, g.Disks(), cells, wide, done)
						}
						if done < count {
							wantStep(t, g, done+1 < count, api.OK)
						}
					}
				}
			}
		}
	}
}

// All sizes that may be, and no other, of a cell that has moved, of the next one, and of one that has not.
func TestWriteOfAllSizes(t *testing.T) {
	m := &maker{9}
	for size := range mostSize + 1 {
		x := newBoth(t, 3, m.cells(11)...)
		for range 12 {
			for i := range 11 {
				x.write(t, i, m.block(size))
				x.read(t, i)
				x.write(t, i, long(longs[m.below(len(longs))]))
				x.read(t, i)
			}
			x.step(t)
		}
	}
}

// All bytes may be written and moved, also those of which texts are not made.
func TestAllBytes(t *testing.T) {
	for b := range 256 {
		block := strings.Repeat(string([]byte{byte(b), byte(b + 1)}), 8)
		g := wantNew(t, 1, "a", block[:1], block)
		for done := range 3 {
			wantCells(t, g, "a", block[:1], block)
			wantStep(t, g, done < 2, api.OK)
		}
		wantCells(t, g, "a", block[:1], block)
		wantWrite(t, g, 0, block, api.OK)
		wantDisks(t, g, [][]string{{block, block}, {block[:1]}})
	}
}

// wrongCalls that may not be, each of them: none of them changes anything.
func (x both) wrongCalls(t *testing.T) {
	t.Helper()
	for _, i := range noCells(x.m.count) {
		wantRead(t, x.g, i, "", api.ErrRange)
		wantWrite(t, x.g, i, "x", api.ErrRange)
		wantWrite(t, x.g, i, "", api.ErrRange)
		wantWrite(t, x.g, i, long(16), api.ErrRange)
		wantWrite(t, x.g, i, long(17), api.ErrRange)
	}
	for i := range x.m.count {
		for _, size := range longs {
			wantWrite(t, x.g, i, long(size), api.ErrRange)
		}
	}
	if x.m.moved == x.m.count {
		wantStep(t, x.g, false, api.ErrState)
	}
	x.same(t)
}

// Wrong calls ahead of each Step and behind it, of as many cells as may be.
func TestWrongCalls(t *testing.T) {
	m := &maker{10}
	for count := range mostCells + 1 {
		for _, wide := range []int{1, 2, 8, 9} {
			x := newBoth(t, wide, m.cells(count)...)
			x.wrongCalls(t)
			for range count {
				x.step(t)
				x.wrongCalls(t)
			}
			x.readAll(t)
			x.finish(t)
		}
	}
}

// With an error nothing is changed: whatever is done later, it is answered as if the call had not been.
func TestNothingIsChangedWithAnError(t *testing.T) {
	m := &maker{11}
	for range 60 {
		x := newBoth(t, 1+m.below(mostWide), m.cells(1+m.below(20))...)
		for range 30 {
			x.anyStep(t, m)
			// The model knows nothing of these.
			x.wrongCalls(t)
		}
		x.readAll(t)
		x.finish(t)
	}
}

// What asks changes nothing, and moves nothing.
func TestWhatAsksChangesNothing(t *testing.T) {
	g := wantNew(t, 2, letters(5)...)
	wantStep(t, g, true, api.OK)
	wantStep(t, g, true, api.OK)
	wantStep(t, g, true, api.OK)
	for range 5 {
		wantDrawn(t, g, "A.E BD C")
		wantDone(t, g, 3)
		wantCells(t, g, letters(5)...)
	}
	wantStep(t, g, true, api.OK)
	wantDrawn(t, g, "ADE B C")
}

// All rows of a few calls, on as many cells as can tell them apart, on each few disks.
func TestAllShortRows(t *testing.T) {
	const steps, kinds = 5, 5
	rows := 1
	for range steps {
		rows *= kinds
	}
	for wide := 1; wide <= 3; wide++ {
		for row := range rows {
			x := newBoth(t, wide, "a", "", "c", "d")
			for step, left := 0, row; step < steps; step, left = step+1, left/kinds {
				if kind := left % kinds; kind < 4 {
					x.write(t, kind, strings.Repeat("x", step%3))
				} else {
					x.step(t)
				}
			}
			x.readAll(t)
			if t.Failed() {
				t.Fatalf("%d disks, row %d", wide, row)
			}
		}
	}
}

// Long rows of calls, right and wrong, answer as the model says, and leave what it says.
func TestManySteps(t *testing.T) {
	m := &maker{12}
	for round := range 400 {
		x := newBoth(t, 1+m.below(mostWide), m.cells(round%(mostCells+1))...)
		for range 120 {
			x.anyStep(t, m)
		}
		x.readAll(t)
		x.finish(t)
		x.readAll(t)
	}
}

func (x both) anyStep(t *testing.T, m *maker) {
	t.Helper()
	wrong := noCells(x.m.count)
	i := m.below(max(x.m.count, 1))
	// Often one near the next one, on either side of it.
	if m.below(2) == 0 {
		i = x.m.moved + m.below(5) - 2
	}
	switch m.below(12) {
	case 0:
		x.read(t, wrong[m.below(len(wrong))])
	case 1:
		x.write(t, wrong[m.below(len(wrong))], m.any())
	case 2:
		x.write(t, i, long(longs[m.below(len(longs))]))
	case 3, 4, 5, 6:
		x.step(t)
	case 7, 8:
		x.read(t, i)
	default:
		x.write(t, i, m.any())
	}
}

// While it moves it is there: each cell is as it was written last, whatever was written and moved in between.
func TestWhileItMovesItIsThere(t *testing.T) {
	m := &maker{13}
	for wide := 1; wide <= mostWide; wide++ {
		for count := 1; count <= mostCells; count++ {
			cells := m.cells(count)
			g := wantNew(t, wide, cells...)
			for done := range count {
				for range 3 {
					i := m.below(count)
					cells[i] = m.any()
					wantWrite(t, g, i, cells[i], api.OK)
				}
				wantCells(t, g, cells...)
				wantStep(t, g, done+1 < count, api.OK)
				wantCells(t, g, cells...)
			}
			wantPlaces(t, g.Disks(), cells, wide, count)
		}
	}
}

// Two grows have nothing in common.
func TestGrowsAreApart(t *testing.T) {
	cells := letters(3)
	first, second := wantNew(t, 1, cells...), wantNew(t, 2, cells...)
	wantStep(t, first, true, api.OK)
	wantStep(t, first, true, api.OK)
	wantWrite(t, first, 2, "x", api.OK)
	wantDone(t, second, 0)
	wantDrawn(t, second, "AC B -")
	wantCells(t, second, "A", "B", "C")
	wantStep(t, second, true, api.OK)
	wantWrite(t, second, 0, "y", api.OK)
	wantDone(t, first, 2)
	wantDrawn(t, first, "A.x B")
	wantDone(t, second, 1)
	wantDrawn(t, second, "yC B -")
}

// Lists that come in stay as they are, also where they are refused, and so does what lies behind them, which is not read.
func TestWhatIsHandedInStays(t *testing.T) {
	m := &maker{14}
	lists := [][]string{m.cells(41), {"a", long(17)}}
	for count := range mostCells + 1 {
		lists = append(lists, m.cells(count))
	}
	for _, list := range lists {
		for _, wide := range []int{0, 1, 9, 10} {
			memory := append(slices.Clone(list), long(17), "behind")
			was := slices.Clone(memory)
			g, err := grow.New(memory[:len(list)], wide)
			if err == nil {
				for i := range list {
					wantWrite(t, g, i, "new", api.OK)
					wantStep(t, g, i+1 < len(list), api.OK)
				}
				wantRead(t, g, len(list), "", api.ErrRange)
				wantStep(t, g, false, api.ErrState)
			}
			if !slices.Equal(memory, was) {
				t.Errorf("New of %d on %d: the list became %q, was %q", len(list), wide, memory, was)
			}
		}
	}
}

// Lists that came in are not kept: what is done with them later reaches nobody.
func TestListsThatCameInAreNotKept(t *testing.T) {
	cells := letters(3)
	g := wantNew(t, 1, cells...)
	for range 3 {
		cells[0], cells[1], cells[2] = "x", "y", "z"
		wantCells(t, g, "A", "B", "C")
		cells[0], cells[1], cells[2] = "", "", ""
		wantStep(t, g, g.Done() < 2, api.OK)
	}
	wantDrawn(t, g, "AC B")
}

// Nor is the memory of texts kept.
func TestTextsThatCameInAreNotKept(t *testing.T) {
	memory := []byte("abcdefgh")
	g := wantNew(t, 1, unsafe.String(&memory[0], 4), unsafe.String(&memory[4], 4))
	memory[0], memory[5] = 'X', 'Y'
	wantCells(t, g, "abcd", "efgh")
	other := []byte("ijkl")
	wantWrite(t, g, 1, unsafe.String(&other[0], 4), api.OK)
	other[1] = 'Z'
	wantCells(t, g, "abcd", "ijkl")
	wantStep(t, g, true, api.OK)
	wantStep(t, g, false, api.OK)
	other[2] = 'Z'
	wantDisks(t, g, [][]string{{"abcd"}, {"ijkl"}})
}

// Texts that come out are fresh: no two of them share memory, nor with one that came in.
func TestTextsThatComeOutAreFresh(t *testing.T) {
	cells := []string{"aaaa", "bbbb", "cccc"}
	g := wantNew(t, 1, cells...)
	texts := slices.Clone(cells)
	ask := func() {
		for i := range cells {
			b, err := g.Read(i)
			if err != nil {
				t.Errorf("Read: error %v", err)
			}
			texts = append(texts, b)
		}
		for _, rows := range g.Disks() {
			for _, b := range rows {
				if b != "" {
					texts = append(texts, b)
				}
			}
		}
	}
	ask()
	ask()
	written := "dddd"
	wantWrite(t, g, 1, written, api.OK)
	texts = append(texts, written)
	for k := range 3 {
		wantStep(t, g, k < 2, api.OK)
		ask()
	}
	for i := range texts {
		for j := range i {
			if unsafe.StringData(texts[i]) == unsafe.StringData(texts[j]) {
				t.Errorf("texts %d and %d share memory: %q, %q", j, i, texts[j], texts[i])
			}
		}
	}
}

// spoil a list, as far as its memory reaches.
func spoil[T any](list []T, by T) {
	list = list[:cap(list)]
	for i := range list {
		list[i] = by
	}
}

// Lists that come out are the caller's: they stay as they are, and what is done with them reaches nobody.
func TestListsThatComeOutAreFresh(t *testing.T) {
	m := &maker{15}
	for wide := 1; wide <= mostWide; wide++ {
		for _, count := range []int{0, 1, 9, 10, 40} {
			x := newBoth(t, wide, m.cells(count)...)
			for range count + 1 {
				kept := x.g.Disks()
				was := copied(kept)
				got := x.g.Disks()
				for _, rows := range got {
					spoil(rows, "spoilt")
				}
				spoil(got, []string{"spoilt"})
				x.same(t)
				x.readAll(t)
				x.step(t)
				for i := range count {
					x.write(t, i, m.any())
				}
				if !isSame(kept, was) {
					t.Fatalf("what came out is %q, was %q", kept, was)
				}
			}
		}
	}
}

// The rows of one disk are not those of another, nor do they reach into them.
func TestRowsAreApart(t *testing.T) {
	m := &maker{16}
	for wide := 1; wide <= mostWide; wide++ {
		for _, count := range []int{1, 9, 10, 40} {
			g := wantNew(t, wide, m.cells(count)...)
			for done := range count {
				want := g.Disks()
				for d := range want {
					got := g.Disks()
					spoil(got[d], "spoilt")
					_ = append(got[d], "more", "and more")
					got[d] = want[d]
					if !isSame(got, want) {
						t.Fatalf("disk %d reaches into others: %q, want %q", d, got, want)
					}
				}
				wantStep(t, g, done+1 < count, api.OK)
			}
		}
	}
}

// The same calls on another grow of the same cells are answered the same.
func TestSameAnswersAgain(t *testing.T) {
	played := func() (out []string) {
		m := &maker{17}
		for range 20 {
			g := wantNew(t, 1+m.below(mostWide), m.cells(20)...)
			for range 60 {
				var b string
				var more bool
				var err error
				switch m.below(3) {
				case 0:
					more, err = g.Step()
				case 1:
					b, err = g.Read(m.below(22) - 1)
				default:
					err = g.Write(m.below(22)-1, m.block(m.below(18)))
				}
				out = append(out, fmt.Sprint(b, more, plain.Told(err), g.Done(), g.Disks()))
			}
		}
		return out
	}
	if first, second := played(), played(); !slices.Equal(first, second) {
		t.Errorf("answers differ")
	}
}

func TestErrorsAreTheNumbersOfThePromise(t *testing.T) {
	_, many := grow.New(make([]string, 41), 1)
	_, big := grow.New([]string{long(17)}, 1)
	_, few := grow.New(nil, 0)
	_, wide := grow.New(nil, 10)
	g := wantNew(t, 1, "a")
	_, noRead := g.Read(1)
	wantStep(t, g, false, api.OK)
	_, noStep := g.Step()
	for k, err := range []error{many, big, few, wide, noRead, g.Write(1, ""), g.Write(0, long(17)), noStep} {
		if want := []api.Errno{4, 1, 1, 1, 1, 1, 1, 6}[k]; plain.Told(err) != want {
			t.Errorf("told %d of error %d, want %d", plain.Told(err), k, want)
		}
	}
}
