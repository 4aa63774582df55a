package disk_test

import (
	"fmt"
	"math"
	"strings"
	"testing"
	"unsafe"

	"paritymill/api"
	"paritymill/disk"
	"paritymill/plain"
)

// The bounds are written out, so that they share no number with the program.
const mostRows, mostSize = 20, 16

// below are numbers that are none of rows or sizes.
var below = []int{-1, -2, -16, -20, -256, math.MinInt32, math.MinInt + 1, math.MinInt}

// above are numbers that no disk has as many rows as.
var above = []int{21, 22, 255, 256, 257, 1<<32 + 1, math.MaxInt32, math.MaxInt - 1, math.MaxInt}

// maker makes the same numbers in each run.
type maker struct{ state uint64 }

func (m *maker) below(n int) int {
	m.state = m.state*6364136223846793005 + 1442695040888963407
	return int(m.state>>33) % n
}

func (m *maker) block(size int) string {
	b := make([]byte, size)
	for i := range b {
		b[i] = byte(m.below(256))
	}
	return string(b)
}

// model is a disk as the chapter says it: texts, and what was done.
type model struct {
	size   int
	blocks []string
	failed bool
	writes int
}

func modelOf(rows, size int) *model {
	m := &model{size: size, blocks: make([]string, rows)}
	m.blank()
	return m
}

func (m *model) blank() {
	for i := range m.blocks {
		m.blocks[i] = strings.Repeat("\x00", m.size)
	}
}

func (m *model) read(row int) (string, api.Errno) {
	switch {
	case m.failed:
		return "", api.ErrState
	case row < 0 || row >= len(m.blocks):
		return "", api.ErrRange
	}
	return m.blocks[row], api.OK
}

func (m *model) write(row int, b string) api.Errno {
	if _, told := m.read(row); told != api.OK {
		return told
	}
	if len(b) != m.size {
		return api.ErrShape
	}
	m.blocks[row] = b
	m.writes++
	return api.OK
}

func (m *model) fail() api.Errno {
	if m.failed {
		return api.ErrState
	}
	m.failed = true
	return api.OK
}

func (m *model) replace() api.Errno {
	if !m.failed {
		return api.ErrState
	}
	m.failed = false
	m.blank()
	return api.OK
}

func wantTold(t *testing.T, what string, err error, want api.Errno) {
	t.Helper()
	if plain.Told(err) != want || err == nil != (want == api.OK) {
		t.Errorf("%s: error %v, want %v", what, err, want)
	}
}

func wantNew(t *testing.T, rows, size int) *disk.Disk {
	t.Helper()
	d, err := disk.New(rows, size)
	if err != nil || d == nil {
		t.Fatalf("New of %d, %d: %v, error %v", rows, size, d, err)
	}
	return d
}

func wantNoNew(t *testing.T, rows, size int) {
	t.Helper()
	d, err := disk.New(rows, size)
	wantTold(t, fmt.Sprintf("New of %d, %d", rows, size), err, api.ErrRange)
	if d != nil {
		t.Errorf("New of %d, %d: a disk comes with the error", rows, size)
	}
}

func wantRead(t *testing.T, d *disk.Disk, row int, want string, told api.Errno) {
	t.Helper()
	got, err := d.Read(row)
	wantTold(t, fmt.Sprintf("Read of %d", row), err, told)
	if got != want {
		t.Errorf("Read of %d: %q, want %q", row, got, want)
	}
}

func wantWrite(t *testing.T, d *disk.Disk, row int, b string, told api.Errno) {
	t.Helper()
	wantTold(t, fmt.Sprintf("Write of %d, %q", row, b), d.Write(row, b), told)
}

// wantAll holds all that can be told of a disk against the model.
func wantAll(t *testing.T, d *disk.Disk, m *model) {
	t.Helper()
	for row := -1; row <= len(m.blocks); row++ {
		want, told := m.read(row)
		wantRead(t, d, row, want, told)
	}
	if d.Works() == m.failed {
		t.Errorf("Works: %v, want %v", d.Works(), !m.failed)
	}
	if d.Writes() != m.writes {
		t.Errorf("Writes: %d, want %d", d.Writes(), m.writes)
	}
}

// both does the same with a disk and its model, and holds one against the other.
type both struct {
	d *disk.Disk
	m *model
}

func newBoth(t *testing.T, rows, size int) both {
	t.Helper()
	x := both{wantNew(t, rows, size), modelOf(rows, size)}
	wantAll(t, x.d, x.m)
	return x
}

func (x both) write(t *testing.T, row int, b string) {
	t.Helper()
	wantWrite(t, x.d, row, b, x.m.write(row, b))
	wantAll(t, x.d, x.m)
}

func (x both) fail(t *testing.T) {
	t.Helper()
	wantTold(t, "Fail", x.d.Fail(), x.m.fail())
	wantAll(t, x.d, x.m)
}

func (x both) replace(t *testing.T) {
	t.Helper()
	wantTold(t, "Replace", x.d.Replace(), x.m.replace())
	wantAll(t, x.d, x.m)
}

// fill writes each row once.
func (x both) fill(t *testing.T, m *maker) {
	t.Helper()
	for row := range x.m.blocks {
		x.write(t, row, m.block(x.m.size))
	}
}

func TestNewIsOfNoughts(t *testing.T) {
	for rows := 1; rows <= mostRows; rows++ {
		for size := 1; size <= mostSize; size++ {
			d := wantNew(t, rows, size)
			for row := range rows {
				wantRead(t, d, row, strings.Repeat("\x00", size), api.OK)
			}
			wantRead(t, d, rows, "", api.ErrRange)
			if !d.Works() || d.Writes() != 0 {
				t.Errorf("New of %d, %d: works %v, %d writes", rows, size, d.Works(), d.Writes())
			}
		}
	}
}

func TestNewOfWhatMayNotBe(t *testing.T) {
	none := append([]int{0}, append(below, above...)...)
	for _, wrong := range none {
		for right := 1; right <= mostRows; right++ {
			wantNoNew(t, wrong, min(right, mostSize))
			wantNoNew(t, right, wrong)
		}
		for _, other := range none {
			wantNoNew(t, wrong, other)
		}
	}
	for size := mostSize + 1; size <= mostRows; size++ {
		wantNoNew(t, 1, size)
		wantNoNew(t, mostRows, size)
	}
}

// Each row of each disk has what was written there last, and no other row has it.
func TestWhatIsWrittenIsRead(t *testing.T) {
	m := &maker{1}
	for rows := 1; rows <= mostRows; rows++ {
		for size := 1; size <= mostSize; size++ {
			x := newBoth(t, rows, size)
			x.fill(t, m)
			for row := rows - 1; row >= 0; row-- {
				x.write(t, row, m.block(size))
			}
		}
	}
}

// A block is bytes, of all kinds.
func TestAllBytes(t *testing.T) {
	d := wantNew(t, 16, 16)
	for row := range 16 {
		b := make([]byte, 16)
		for i := range b {
			b[i] = byte(16*row + i)
		}
		wantWrite(t, d, row, string(b), api.OK)
		wantRead(t, d, row, string(b), api.OK)
	}
}

func TestNoRow(t *testing.T) {
	m := &maker{2}
	for rows := 1; rows <= mostRows; rows++ {
		x := newBoth(t, rows, 3)
		x.fill(t, m)
		for _, row := range append([]int{rows, rows + 1, 2 * rows, mostRows}, append(below, above...)...) {
			wantRead(t, x.d, row, "", api.ErrRange)
			x.write(t, row, "abc")
		}
	}
}

// A text of another size is written in no part, and does not count.
func TestWriteOfAnotherSize(t *testing.T) {
	m := &maker{3}
	for size := 1; size <= mostSize; size++ {
		x := newBoth(t, 2, size)
		x.fill(t, m)
		for other := range 2*mostSize + 2 {
			if other == size {
				continue
			}
			wantWrite(t, x.d, 1, m.block(other), api.ErrShape)
			wantAll(t, x.d, x.m)
		}
		wantWrite(t, x.d, 0, strings.Repeat("a", 256+size), api.ErrShape)
		wantAll(t, x.d, x.m)
	}
}

// Of several errors the first one of the chapter is told: failed, then the row, then the size.
func TestWhichErrorIsTold(t *testing.T) {
	d := wantNew(t, 2, 2)
	for _, row := range []int{-1, 2, math.MinInt, math.MaxInt} {
		wantWrite(t, d, row, "abc", api.ErrRange)
		wantWrite(t, d, row, "", api.ErrRange)
	}
	wantTold(t, "Fail", d.Fail(), api.OK)
	for _, row := range []int{-1, 0, 1, 2, math.MinInt, math.MaxInt} {
		wantRead(t, d, row, "", api.ErrState)
		for _, b := range []string{"", "a", "ab", "abc"} {
			wantWrite(t, d, row, b, api.ErrState)
		}
	}
}

func TestFail(t *testing.T) {
	m := &maker{4}
	x := newBoth(t, 3, 4)
	x.fill(t, m)
	x.fail(t)
	x.fail(t)
	x.write(t, 0, "abcd")
	x.fail(t)
	wantTold(t, "Fail again", x.d.Fail(), api.ErrState)
	if x.d.Works() || x.d.Writes() != 3 {
		t.Errorf("failed: works %v, %d writes, want 3", x.d.Works(), x.d.Writes())
	}
}

func TestReplaceOfOneThatWorks(t *testing.T) {
	m := &maker{5}
	x := newBoth(t, 3, 4)
	wantTold(t, "Replace", x.d.Replace(), api.ErrState)
	x.fill(t, m)
	wantTold(t, "Replace", x.d.Replace(), api.ErrState)
	wantAll(t, x.d, x.m)
	x.fail(t)
	x.replace(t)
	x.write(t, 1, "abcd")
	wantTold(t, "Replace again", x.d.Replace(), api.ErrState)
	wantAll(t, x.d, x.m)
}

// A new one has noughts, works, and is of the same shape; what was written to those before it counts.
func TestReplace(t *testing.T) {
	m := &maker{6}
	for rows := 1; rows <= mostRows; rows++ {
		for size := 1; size <= mostSize; size++ {
			x := newBoth(t, rows, size)
			for round := range 3 {
				x.fill(t, m)
				x.fail(t)
				x.replace(t)
				if want := (round + 1) * rows; x.d.Writes() != want || !x.d.Works() {
					t.Errorf("%d rows, round %d: works %v, %d writes, want %d", rows, round, x.d.Works(), x.d.Writes(), want)
				}
			}
		}
	}
}

// A disk that fails at once, over and over.
func TestFailAndReplaceWithoutWrites(t *testing.T) {
	x := newBoth(t, 1, 1)
	for range 50 {
		x.fail(t)
		x.replace(t)
	}
	x.write(t, 0, "a")
	if x.d.Writes() != 1 {
		t.Errorf("Writes: %d, want 1", x.d.Writes())
	}
}

// A Write that changes no byte is one too, and a Read is none.
func TestWritesCounts(t *testing.T) {
	d := wantNew(t, 2, 2)
	for i := range 300 {
		wantWrite(t, d, i%2, "\x00\x00", api.OK)
		wantRead(t, d, i%2, "\x00\x00", api.OK)
		if d.Writes() != i+1 {
			t.Fatalf("Writes: %d, want %d", d.Writes(), i+1)
		}
	}
}

// Long rows of calls, right and wrong, answer as the model says.
func TestManySteps(t *testing.T) {
	m := &maker{7}
	for range 400 {
		rows, size := 1+m.below(mostRows), 1+m.below(mostSize)
		x := newBoth(t, rows, size)
		for range 60 {
			switch m.below(12) {
			case 0:
				x.fail(t)
			case 1, 2:
				x.replace(t)
			case 3:
				x.write(t, m.below(rows+4)-2, m.block(m.below(mostSize+3)))
			default:
				x.write(t, m.below(rows), m.block(size))
			}
		}
	}
}

// Two disks have nothing in common.
func TestDisksAreApart(t *testing.T) {
	m := &maker{8}
	x, y := newBoth(t, 4, 5), newBoth(t, 4, 5)
	x.fill(t, m)
	wantAll(t, y.d, y.m)
	y.fill(t, m)
	wantAll(t, x.d, x.m)
	x.fail(t)
	wantAll(t, y.d, y.m)
	y.write(t, 2, "other")
	x.replace(t)
	wantAll(t, y.d, y.m)
	y.fail(t)
	wantAll(t, x.d, x.m)
}

// A text over memory that changes shows whether it was kept: none is.
func TestWhatIsWrittenIsNotKept(t *testing.T) {
	d := wantNew(t, 2, 4)
	memory := []byte("abcdrest")
	wantWrite(t, d, 1, unsafe.String(&memory[0], 4), api.OK)
	if string(memory) != "abcdrest" {
		t.Errorf("Write changed what it was handed: %q", memory)
	}
	copy(memory, "zzzzzzzz")
	wantRead(t, d, 1, "abcd", api.OK)
}

// What was read stays as it is, whatever is done with the disk, and no two answers share memory.
func TestWhatIsReadIsFresh(t *testing.T) {
	for _, size := range []int{2, 4, 16} {
		d := wantNew(t, 1, size)
		written := strings.Repeat("a", size)
		wantWrite(t, d, 0, written, api.OK)
		first, _ := d.Read(0)
		second, _ := d.Read(0)
		if unsafe.StringData(first) == unsafe.StringData(second) || unsafe.StringData(first) == unsafe.StringData(written) {
			t.Errorf("size %d: answers share memory", size)
		}
		wantWrite(t, d, 0, strings.Repeat("b", size), api.OK)
		wantTold(t, "Fail", d.Fail(), api.OK)
		wantTold(t, "Replace", d.Replace(), api.OK)
		if first != written || second != written {
			t.Errorf("what was read changed: %q, %q", first, second)
		}
	}
}

func TestErrorsAreTheNumbersOfThePromise(t *testing.T) {
	d := wantNew(t, 1, 1)
	_, noRow := d.Read(1)
	for i, err := range []error{noRow, d.Write(0, ""), d.Replace()} {
		if want := []api.Errno{1, 3, 6}[i]; plain.Told(err) != want {
			t.Errorf("told %d, want %d", plain.Told(err), want)
		}
	}
}
