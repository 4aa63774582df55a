package scrub_test

import (
	"fmt"
	"math"
	"slices"
	"testing"

	"paritymill/api"
	"paritymill/array"
	"paritymill/plain"
	"paritymill/scrub"
)

// The bounds are written out, so that they share no number with the program.
const (
	fewest, most       = 3, 10
	mostRows, mostSize = 20, 16
)

// below are numbers that are none of disks or rows.
var below = []int{-1, -2, -3, -10, -20, -256, math.MinInt32, math.MinInt + 1, math.MinInt}

// above are numbers that no array has as many disks or rows as.
var above = []int{21, 100, 255, 256, 259, 1<<32 + 3, math.MaxInt32, math.MaxInt - 1, math.MaxInt}

// noArrays are numbers of disks that none may have.
var noArrays = slices.Concat([]int{0, 1, 2, 11, 12, 13}, below, above)

// noRows are numbers of rows that are none of so many.
func noRows(count int) []int {
	return slices.Concat([]int{count, count + 1, mostRows}, below, above)
}

// maker makes the same numbers in each run.
type maker struct{ state uint64 }

func (m *maker) below(n int) int {
	m.state = m.state*6364136223846793005 + 1442695040888963407
	return int(m.state>>33) % n
}

func (m *maker) block(size int) string {
	b := make([]byte, size)
	for i := range b {
		b[i] = byte(m.below(256))
	}
	return string(b)
}

// other is a block that is not b, in one byte at least, and in the rest as it comes.
func (m *maker) other(b string) string {
	out := []byte(b)
	if m.below(2) == 0 {
		out = []byte(m.block(len(b)))
	}
	at := m.below(len(b))
	out[at] = b[at] ^ byte(1+m.below(255))
	return string(out)
}

func wantTold(t *testing.T, what string, err error, want api.Errno) {
	t.Helper()
	if plain.Told(err) != want || err == nil != (want == api.OK) {
		t.Errorf("%s: error %v, want %v", what, err, want)
	}
}

// mill is an array, and its shape.
type mill struct {
	a             *array.Array
	n, rows, size int
}

func newMill(t *testing.T, n, rows, size int) mill {
	t.Helper()
	a, err := array.New(n, rows, size)
	if err != nil {
		t.Fatalf("New of %d, %d, %d: error %v", n, rows, size, err)
	}
	return mill{a, n, rows, size}
}

// filled has an array of which each block was written.
func filled(t *testing.T, m *maker, n, rows, size int) mill {
	t.Helper()
	x := newMill(t, n, rows, size)
	for block := range rows * (n - 2) {
		wantTold(t, "Write", x.a.Write(block, m.block(size)), api.OK)
	}
	return x
}

// seen has all that the array has, row by row.
func (x mill) seen(t *testing.T) rows {
	t.Helper()
	var out rows
	for at := range x.rows {
		parts, lost, err := x.a.Raw(at)
		if err != nil || len(parts) != x.n {
			t.Fatalf("Raw of %d: %q, error %v", at, parts, err)
		}
		one := row{make([]string, x.n), make([]bool, x.n)}
		for i, d := range orderOf(x.n, at) {
			one.has[d], one.gone[d] = parts[i], lost[i]
		}
		out = append(out, one)
	}
	return out
}

// wantSeen holds what the array has against what it is to have.
func (x mill) wantSeen(t *testing.T, want rows) {
	t.Helper()
	for at, one := range x.seen(t) {
		if !slices.Equal(one.has, want[at].has) || !slices.Equal(one.gone, want[at].gone) {
			t.Errorf("row %d of %d disks: %q %v, want %q %v", at, x.n, one.has, one.gone, want[at].has, want[at].gone)
		}
	}
	if t.Failed() {
		t.FailNow()
	}
}

func (x mill) wantRow(t *testing.T, n, at, want int, told api.Errno) {
	t.Helper()
	d, err := scrub.Row(x.a, n, at)
	what := fmt.Sprintf("Row of %d, %d (%d disks, %d rows)", n, at, x.n, x.rows)
	wantTold(t, what, err, told)
	if d != want {
		t.Errorf("%s: %d, want %d", what, d, want)
	}
}

func (x mill) wantAll(t *testing.T, n, count int, want []api.Spot, told api.Errno) {
	t.Helper()
	spots, err := scrub.All(x.a, n, count)
	what := fmt.Sprintf("All of %d, %d (%d disks, %d rows)", n, count, x.n, x.rows)
	wantTold(t, what, err, told)
	if !slices.Equal(spots, want) {
		t.Errorf("%s: %v, want %v", what, spots, want)
	}
}

// byModelRow does it, and holds what is told, and what the array has then, against the model.
func (x mill) byModelRow(t *testing.T, n, at int) {
	t.Helper()
	m := x.seen(t)
	d, told := m.scrub(n, at)
	x.wantRow(t, n, at, d, told)
	x.wantSeen(t, m)
}

func (x mill) byModelAll(t *testing.T, n, count int) {
	t.Helper()
	m := x.seen(t)
	spots, told := m.scrubAll(n, count)
	x.wantAll(t, n, count, spots, told)
	x.wantSeen(t, m)
}

func (x mill) poke(t *testing.T, d, at int, b string) {
	t.Helper()
	wantTold(t, fmt.Sprintf("Poke of %d, %d", d, at), x.a.Poke(d, at, b), api.OK)
}

// spoil what a disk has in a row: it is another thing then.
func (x mill) spoil(t *testing.T, m *maker, d, at int) {
	t.Helper()
	x.poke(t, d, at, m.other(x.seen(t)[at].has[d]))
}

// spoilTwo of a row such that no one part can be mended: they are wrong in one byte each, and not in the same one.
func (x mill) spoilTwo(t *testing.T, at, first, second int) {
	t.Helper()
	for i, d := range []int{first, second} {
		b := []byte(x.seen(t)[at].has[d])
		b[i] ^= 0x5a
		x.poke(t, d, at, string(b))
	}
}

func (x mill) fail(t *testing.T, d int) {
	t.Helper()
	wantTold(t, "Fail", x.a.Fail(d), api.OK)
}

func (x mill) replace(t *testing.T, d int) {
	t.Helper()
	wantTold(t, "Replace", x.a.Replace(d), api.OK)
}

func (x mill) rebuild(t *testing.T, d int) {
	t.Helper()
	_, err := x.a.Rebuild(d)
	wantTold(t, "Rebuild", err, api.OK)
}

func (x mill) wantRaw(t *testing.T, at int, want ...string) {
	t.Helper()
	parts, _, err := x.a.Raw(at)
	wantTold(t, "Raw", err, api.OK)
	if !slices.Equal(parts, want) {
		t.Errorf("Raw of %d: %q, want %q", at, parts, want)
	}
}

// Numbers worked out by hand: 4 disks, so that in row 0 data is on 1 and 2, P on 3 and Q on 0, and in row 1 data on 0 and 1, P on 2 and Q on 3.
func TestRowByHand(t *testing.T) {
	x := newMill(t, 4, 2, 2)
	wantTold(t, "Write", x.a.Write(0, "\xb8\xb9"), api.OK)
	wantTold(t, "Write", x.a.Write(1, "\x96\x97"), api.OK)
	wantTold(t, "Write", x.a.Write(3, "\x01\x80"), api.OK)
	row0, row1 := []string{"\xb8\xb9", "\x96\x97", "\x2e\x2e", "\x89\x8a"}, []string{"\x00\x00", "\x01\x80", "\x01\x80", "\x02\x1d"}
	for at, want := range [][]string{row0, row1} {
		x.wantRow(t, 4, at, -1, api.OK)
		x.wantRaw(t, at, want...)
		for d := range 4 {
			x.poke(t, d, at, "\xff\x00")
			x.wantRow(t, 4, at, d, api.OK)
			x.wantRaw(t, 0, row0...)
			x.wantRaw(t, 1, row1...)
			x.wantRow(t, 4, at, -1, api.OK)
		}
	}
}

func TestAllByHand(t *testing.T) {
	x := newMill(t, 5, 4, 1)
	wantTold(t, "Write", x.a.Write(7, "\x80"), api.OK)
	// In row 2 data is on 4, 0 and 1, P on 2, Q on 3.
	x.wantRaw(t, 2, "\x00", "\x80", "\x00", "\x80", "\x1d")
	x.poke(t, 3, 2, "\x1e")
	x.poke(t, 4, 0, "a")
	x.poke(t, 0, 3, "\x01")
	x.wantAll(t, 5, 4, []api.Spot{{Disk: 4, Row: 0}, {Disk: 3, Row: 2}, {Disk: 0, Row: 3}}, api.OK)
	x.wantRaw(t, 0, "\x00", "\x00", "\x00", "\x00", "\x00")
	x.wantRaw(t, 2, "\x00", "\x80", "\x00", "\x80", "\x1d")
	x.wantRaw(t, 3, "\x00", "\x00", "\x00", "\x00", "\x00")
	x.wantAll(t, 5, 4, nil, api.OK)
}

// In arrays of all shapes: whichever disk is wrong in whichever row, it is told, and has what it had; nothing else changes.
func TestRowMendsAnyOne(t *testing.T) {
	m := &maker{1}
	for n := fewest; n <= most; n++ {
		x := filled(t, m, n, mostRows, 1+m.below(mostSize))
		was := x.seen(t)
		for at := range mostRows {
			for d := range n {
				x.spoil(t, m, d, at)
				x.wantRow(t, n, at, d, api.OK)
				x.wantSeen(t, was)
				x.wantRow(t, n, at, -1, api.OK)
				x.wantSeen(t, was)
			}
		}
	}
}

// A row is looked at alone: what is wrong in others stays so.
func TestRowLeavesOtherRows(t *testing.T) {
	m := &maker{2}
	for n := fewest; n <= most; n++ {
		x := filled(t, m, n, 5, 3)
		for at := range 5 {
			x.spoil(t, m, m.below(n), at)
		}
		for _, at := range []int{3, 0, 4, 1, 2} {
			x.byModelRow(t, n, at)
			x.byModelRow(t, n, at)
		}
		x.wantAll(t, n, 5, nil, api.OK)
	}
}

// Each way in which a byte may be wrong, at the first and the last byte of a block.
func TestAllWrongBytes(t *testing.T) {
	m := &maker{3}
	x := filled(t, m, 6, 1, mostSize)
	was := x.seen(t)
	for d := range 6 {
		for wrong := 1; wrong < 256; wrong++ {
			for _, at := range []int{0, mostSize - 1} {
				b := []byte(was[0].has[d])
				b[at] ^= byte(wrong)
				x.poke(t, d, 0, string(b))
				x.wantRow(t, 6, 0, d, api.OK)
				x.wantSeen(t, was)
			}
		}
	}
}

func TestAllShapes(t *testing.T) {
	m := &maker{4}
	for n := fewest; n <= most; n++ {
		for count := 1; count <= mostRows; count++ {
			x := filled(t, m, n, count, 1+m.below(mostSize))
			was := x.seen(t)
			x.wantAll(t, n, count, nil, api.OK)
			x.wantSeen(t, was)
			var want []api.Spot
			for at := range count {
				if m.below(3) > 0 {
					want = append(want, api.Spot{Disk: m.below(n), Row: at})
					x.spoil(t, m, want[len(want)-1].Disk, at)
				}
			}
			x.wantAll(t, n, count, want, api.OK)
			x.wantSeen(t, was)
			x.wantAll(t, n, count, nil, api.OK)
		}
	}
}

// What was written is read again, whatever disk was wrong, and may be lost again then.
func TestWhatWasWrittenIsRead(t *testing.T) {
	m := &maker{5}
	for n := fewest; n <= most; n++ {
		x := newMill(t, n, 4, 5)
		var written []string
		for block := range 4 * (n - 2) {
			written = append(written, m.block(5))
			wantTold(t, "Write", x.a.Write(block, written[block]), api.OK)
		}
		for at := range 4 {
			x.spoil(t, m, m.below(n), at)
		}
		if spots, err := scrub.All(x.a, n, 4); err != nil || len(spots) != 4 {
			t.Errorf("All: %v, error %v", spots, err)
		}
		x.fail(t, 0)
		x.fail(t, n-1)
		for block, want := range written {
			if got, err := x.a.Read(block); got != want || err != nil {
				t.Errorf("Read of %d: %q, error %v, want %q", block, got, err, want)
			}
		}
	}
}

// Two that are wrong are too many: the row is left as it is.
func TestTwoAreWrong(t *testing.T) {
	m := &maker{6}
	for n := fewest; n <= most; n++ {
		for first := range n {
			for second := range n {
				if first == second {
					continue
				}
				x := filled(t, m, n, 3, 2)
				x.spoilTwo(t, 1, first, second)
				was := x.seen(t)
				x.wantRow(t, n, 1, 0, api.ErrLost)
				x.wantSeen(t, was)
				x.wantAll(t, n, 3, nil, api.OK)
				x.wantSeen(t, was)
			}
		}
	}
}

// More that are wrong, in all ways: some look as if it were one, and then it is that one that is mended.
func TestManyAreWrong(t *testing.T) {
	m := &maker{7}
	for range 3000 {
		n := fewest + m.below(most-fewest+1)
		x := filled(t, m, n, 1, 1+m.below(2))
		for range 2 + m.below(2) {
			x.spoil(t, m, m.below(n), 0)
		}
		x.byModelRow(t, n, 0)
	}
}

// P and Q wrong by the same are as the first block of data wrong by it, and that is the one which is told.
func TestTwoThatLookAsOne(t *testing.T) {
	x := newMill(t, 4, 1, 1)
	wantTold(t, "Write", x.a.Write(0, "\x05"), api.OK)
	x.poke(t, 3, 0, "\x06")
	x.poke(t, 0, 0, "\x06")
	x.wantRow(t, 4, 0, 1, api.OK)
	x.wantRaw(t, 0, "\x06", "\x00", "\x06", "\x06")
	// By twice as much in Q it is the second one.
	x.poke(t, 3, 0, "\x07")
	x.poke(t, 0, 0, "\x04")
	x.wantAll(t, 4, 1, []api.Spot{{Disk: 2, Row: 0}}, api.OK)
	x.wantRaw(t, 0, "\x06", "\x01", "\x07", "\x04")
}

// With a part that is lost, of however many, nothing is looked for, be anything wrong or not.
func TestOneIsLost(t *testing.T) {
	m := &maker{8}
	for n := fewest; n <= most; n++ {
		for count := 1; count <= n; count++ {
			for _, wrong := range []int{0, 1, 2} {
				x := filled(t, m, n, 2, 2)
				switch wrong {
				case 1:
					x.spoil(t, m, n-1, 1)
				case 2:
					x.spoilTwo(t, 1, n-1, n-2)
				}
				for d := range count {
					x.fail(t, d)
				}
				was := x.seen(t)
				for at := range 2 {
					x.wantRow(t, n, at, 0, api.ErrState)
				}
				x.wantAll(t, n, 2, nil, api.OK)
				x.wantSeen(t, was)
			}
		}
	}
}

// Any one disk that fails is enough for ErrState, be it that of data, P or Q.
func TestAnyOneIsLost(t *testing.T) {
	m := &maker{9}
	for n := fewest; n <= most; n++ {
		for d := range n {
			x := filled(t, m, n, 3, 2)
			x.fail(t, d)
			for at := range 3 {
				x.wantRow(t, n, at, 0, api.ErrState)
			}
		}
	}
}

// A disk that took the place of another is lost in rows that are not built, and mended in those that are.
func TestRowsThatAreBuilt(t *testing.T) {
	m := &maker{10}
	x := filled(t, m, 5, 4, 2)
	x.fail(t, 2)
	x.replace(t, 2)
	for built := range 5 {
		for at := range 4 {
			want, told := -1, api.OK
			if at >= built {
				want, told = 0, api.ErrState
			}
			x.wantRow(t, 5, at, want, told)
		}
		if built == 4 {
			break
		}
		x.spoil(t, m, 4, built)
		was := x.seen(t)
		x.wantRow(t, 5, built, 0, api.ErrState)
		x.wantSeen(t, was)
		// What is built by a part that is wrong may be wrong itself, so that the row is written anew.
		x.rebuild(t, 2)
		x.byModelRow(t, 5, built)
		x.writeRow(t, m, built)
	}
	for at := range 4 {
		x.spoil(t, m, 2, at)
	}
	x.wantAll(t, 5, 4, []api.Spot{{Disk: 2, Row: 0}, {Disk: 2, Row: 1}, {Disk: 2, Row: 2}, {Disk: 2, Row: 3}}, api.OK)
}

// writeRow writes each block of a row, so that nothing is wrong in it.
func (x mill) writeRow(t *testing.T, m *maker, at int) {
	t.Helper()
	for i := range x.n - 2 {
		wantTold(t, "Write", x.a.Write(at*(x.n-2)+i, m.block(x.size)), api.OK)
	}
}

// All leaves rows of which something is lost, or too much is wrong, and goes on with the next one.
func TestAllGoesOn(t *testing.T) {
	m := &maker{11}
	for n := fewest; n <= most; n++ {
		x := filled(t, m, n, 6, 2)
		x.fail(t, 1)
		x.replace(t, 1)
		for range 5 {
			x.rebuild(t, 1)
		}
		was := x.seen(t)
		x.spoil(t, m, 0, 1)
		x.spoilTwo(t, 2, 0, n-1)
		x.spoil(t, m, n-1, 3)
		x.spoilTwo(t, 0, 2, 1)
		x.spoil(t, m, 0, 5)
		now := x.seen(t)
		want := rows{now[0], was[1], now[2], was[3], was[4], now[5]}
		x.wantRow(t, n, 0, 0, api.ErrLost)
		x.wantRow(t, n, 5, 0, api.ErrState)
		x.wantAll(t, n, 6, []api.Spot{{Disk: 0, Row: 1}, {Disk: n - 1, Row: 3}}, api.OK)
		x.wantSeen(t, want)
	}
}

// The row after those that are left is mended too, so that a lost row ahead does not end it.
func TestAllGoesOnBehindALostRow(t *testing.T) {
	m := &maker{12}
	x := filled(t, m, 4, 3, 2)
	was := x.seen(t)
	x.spoilTwo(t, 0, 1, 2)
	x.spoilTwo(t, 1, 0, 3)
	x.spoil(t, m, 2, 2)
	now := x.seen(t)
	x.wantAll(t, 4, 3, []api.Spot{{Disk: 2, Row: 2}}, api.OK)
	x.wantSeen(t, rows{now[0], now[1], was[2]})
}

// So many rows, and no more.
func TestAllOfFewerRows(t *testing.T) {
	m := &maker{13}
	for count := range 6 {
		x := filled(t, m, 4, 6, 2)
		want, spots := x.seen(t), []api.Spot(nil)
		for at := range 6 {
			x.spoil(t, m, at%4, at)
			if at < count {
				spots = append(spots, api.Spot{Disk: at % 4, Row: at})
			}
		}
		copy(want[count:], x.seen(t)[count:])
		x.wantAll(t, 4, count, spots, api.OK)
		x.wantSeen(t, want)
	}
}

// Of no row, and of fewer than none, nothing is looked at: there is no row that Row could tell an error of.
func TestAllOfNoRows(t *testing.T) {
	m := &maker{14}
	x := filled(t, m, 4, 2, 2)
	x.spoil(t, m, 1, 0)
	was := x.seen(t)
	for _, count := range append([]int{0}, below...) {
		for _, n := range append([]int{4, 3, 5}, noArrays...) {
			x.wantAll(t, n, count, nil, api.OK)
		}
	}
	x.wantSeen(t, was)
}

// Of more rows than there are ErrRange is told at the first one that is not there, without spots; what is mended ahead is mended.
func TestAllOfMoreRows(t *testing.T) {
	m := &maker{15}
	for count := 1; count <= mostRows; count++ {
		for _, more := range append([]int{count + 1, count + 2}, above...) {
			x := filled(t, m, 4, count, 2)
			was := x.seen(t)
			for at := range count {
				x.spoil(t, m, (at+1)%4, at)
			}
			x.wantAll(t, 4, more, nil, api.ErrRange)
			x.wantSeen(t, was)
		}
	}
}

// The same with rows that are left as they are.
func TestAllOfMoreRowsWithSomeLeft(t *testing.T) {
	m := &maker{16}
	x := filled(t, m, 4, 3, 2)
	was := x.seen(t)
	x.spoil(t, m, 0, 0)
	x.spoilTwo(t, 1, 2, 3)
	x.spoil(t, m, 1, 2)
	now := x.seen(t)
	x.wantAll(t, 4, 4, nil, api.ErrRange)
	x.wantSeen(t, rows{was[0], now[1], was[2]})
	x.fail(t, 0)
	now = x.seen(t)
	x.wantAll(t, 4, math.MaxInt, nil, api.ErrRange)
	x.wantSeen(t, now)
}

func TestNoSuchRow(t *testing.T) {
	m := &maker{17}
	for count := 1; count <= mostRows; count++ {
		x := filled(t, m, 4, count, 2)
		x.spoil(t, m, 2, 0)
		was := x.seen(t)
		for _, at := range noRows(count) {
			x.wantRow(t, 4, at, 0, api.ErrRange)
		}
		x.wantSeen(t, was)
	}
}

func TestNoSuchNumberOfDisks(t *testing.T) {
	m := &maker{18}
	for n := fewest; n <= most; n++ {
		x := filled(t, m, n, 2, 2)
		x.spoil(t, m, 1, 0)
		was := x.seen(t)
		for _, other := range noArrays {
			x.wantRow(t, other, 0, 0, api.ErrRange)
			x.wantAll(t, other, 1, nil, api.ErrRange)
			x.wantAll(t, other, 2, nil, api.ErrRange)
		}
		x.wantSeen(t, was)
	}
}

// A number of disks that may be, but is not the array's.
func TestAnotherNumberOfDisks(t *testing.T) {
	m := &maker{19}
	for n := fewest; n <= most; n++ {
		x := filled(t, m, n, 3, 2)
		for at := range 3 {
			x.spoil(t, m, m.below(n), at)
		}
		was := x.seen(t)
		for other := fewest; other <= most; other++ {
			if other == n {
				continue
			}
			for at := range 3 {
				x.wantRow(t, other, at, 0, api.ErrShape)
			}
			x.wantAll(t, other, 3, nil, api.ErrShape)
			x.wantAll(t, other, 100, nil, api.ErrShape)
		}
		x.wantSeen(t, was)
	}
}

// Of several errors the first one of the chapter is told.
func TestWhichErrorIsTold(t *testing.T) {
	m := &maker{20}
	for n := fewest; n <= most; n++ {
		x := filled(t, m, n, 2, 2)
		x.spoilTwo(t, 0, 0, 1)
		x.spoilTwo(t, 1, 0, 1)
		other := fewest + (n-fewest+1)%(most-fewest+1)
		x.wantRow(t, other, 0, 0, api.ErrShape)
		x.wantRow(t, n, 0, 0, api.ErrLost)
		x.fail(t, n-1)
		was := x.seen(t)
		// Lost comes ahead of wrong.
		x.wantRow(t, n, 1, 0, api.ErrState)
		// The shape comes ahead of both, the row and the number of disks ahead of it.
		x.wantRow(t, other, 1, 0, api.ErrShape)
		x.wantAll(t, other, 2, nil, api.ErrShape)
		for _, at := range noRows(2) {
			x.wantRow(t, other, at, 0, api.ErrRange)
			x.wantRow(t, n, at, 0, api.ErrRange)
		}
		for _, none := range noArrays {
			x.wantRow(t, none, 1, 0, api.ErrRange)
			x.wantRow(t, none, 2, 0, api.ErrRange)
			x.wantRow(t, none, -1, 0, api.ErrRange)
			x.wantAll(t, none, 2, nil, api.ErrRange)
		}
		x.wantSeen(t, was)
	}
}

func TestErrorsAreTheNumbersOfThePromise(t *testing.T) {
	m := &maker{21}
	x := filled(t, m, 4, 1, 2)
	_, noArray := scrub.Row(x.a, 2, 0)
	_, noShape := scrub.Row(x.a, 5, 0)
	x.spoilTwo(t, 0, 1, 2)
	_, tooMuch := scrub.Row(x.a, 4, 0)
	x.fail(t, 0)
	_, lost := scrub.Row(x.a, 4, 0)
	_, noRow := scrub.All(x.a, 4, 2)
	_, noShapes := scrub.All(x.a, 5, 1)
	for i, err := range []error{noArray, noShape, tooMuch, lost, noRow, noShapes} {
		if want := []api.Errno{1, 3, 8, 6, 1, 3}[i]; plain.Told(err) != want {
			t.Errorf("told %d of error %d, want %d", plain.Told(err), i, want)
		}
	}
}

// Long rows of calls, right and wrong, answer as the model says, and leave what it says.
func TestManySteps(t *testing.T) {
	m := &maker{22}
	for range 300 {
		x := filled(t, m, fewest+m.below(most-fewest+1), 1+m.below(5), 1+m.below(3))
		for range 60 {
			x.anyStep(t, m)
		}
	}
}

func (x mill) anyStep(t *testing.T, m *maker) {
	t.Helper()
	d, at, n, count := m.below(x.n), m.below(x.rows), x.n, x.rows
	if m.below(8) == 0 {
		at, n, count = at*3-3, m.below(14)-1, m.below(x.rows*3)-1
	}
	// These may be told to be wrong: then nothing is done, and that is as good a step.
	switch m.below(24) {
	case 0:
		x.a.Fail(d)
	case 1, 2:
		x.a.Replace(d)
	case 3, 4, 5, 6, 7, 8, 9:
		x.a.Rebuild(d)
	case 10, 11, 12, 13, 14, 15:
		x.a.Poke(d, at, m.block(x.size))
	case 16, 17:
		x.a.Write(m.below(x.rows*(x.n-2)), m.block(x.size))
	case 18, 19:
		x.byModelAll(t, n, count)
	default:
		x.byModelRow(t, n, at)
	}
}

// Two arrays have nothing in common.
func TestArraysAreApart(t *testing.T) {
	m := &maker{23}
	x, y := filled(t, m, 4, 2, 3), filled(t, m, 4, 2, 3)
	was := x.seen(t)
	x.spoil(t, m, 1, 0)
	y.spoil(t, m, 2, 0)
	wrong := y.seen(t)
	x.wantAll(t, 4, 2, []api.Spot{{Disk: 1, Row: 0}}, api.OK)
	x.wantSeen(t, was)
	y.wantSeen(t, wrong)
	y.wantAll(t, 4, 2, []api.Spot{{Disk: 2, Row: 0}}, api.OK)
	x.wantSeen(t, was)
}

// What came out is the caller's: it stays as it is, and what is done with it reaches nobody.
func TestWhatComesOutIsFresh(t *testing.T) {
	m := &maker{24}
	x := filled(t, m, 4, 3, 2)
	was, want := x.seen(t), []api.Spot{{Disk: 1, Row: 0}, {Disk: 3, Row: 1}, {Disk: 0, Row: 2}}
	var all [][]api.Spot
	for range 3 {
		for _, s := range want {
			x.spoil(t, m, s.Disk, s.Row)
		}
		spots, err := scrub.All(x.a, 4, 3)
		wantTold(t, "All", err, api.OK)
		all = append(all, spots)
	}
	clear(all[1][:cap(all[1])])
	if !slices.Equal(all[0], want) || !slices.Equal(all[2], want) {
		t.Errorf("All: answers share memory: %v", all)
	}
	x.wantSeen(t, was)
}

// The same calls on another array of the same kind are answered the same.
func TestSameAnswersAgain(t *testing.T) {
	played := func() (out []any) {
		m := &maker{25}
		x := filled(t, m, 5, 4, 2)
		for range 40 {
			x.spoil(t, m, m.below(5), m.below(4))
			d, err := scrub.Row(x.a, 5, m.below(4))
			out = append(out, d, plain.Told(err))
			if m.below(4) == 0 {
				spots, err := scrub.All(x.a, 5, 4)
				out = append(out, fmt.Sprint(spots), plain.Told(err))
			}
		}
		return out
	}
	if first, second := played(), played(); !slices.Equal(first, second) {
		t.Errorf("answers differ: %v, %v", first, second)
	}
}
