package redo_test

import (
	"fmt"
	"math"
	"slices"
	"strings"
	"testing"
	"unsafe"

	"paritymill/api"
	"paritymill/plain"
	"paritymill/redo"
)

// all is more bytes than there are in any of these tests.
const all = math.MaxInt

// below are numbers that are none of cells, and keep nothing, and never stop it.
var below = []int{-1, -2, -16, -40, -256, -65536, math.MinInt32, math.MinInt + 1, math.MinInt}

// longs are sizes that no cell has; some of them look like others where they are cut to a byte or two.
var longs = []int{17, 18, 32, 255, 256, 257, 272, 65536, 65540}

// maker makes the same numbers in each run.
type maker struct{ state uint64 }

func (m *maker) below(n int) int {
	m.state = m.state*6364136223846793005 + 1442695040888963407
	return int(m.state>>33) % n
}

func (m *maker) block(size int) string {
	b := make([]byte, size)
	for i := range b {
		b[i] = byte(m.below(256))
	}
	return string(b)
}

// cells so many, of any sizes.
func (m *maker) cells(count int) (out []string) {
	for range count {
		out = append(out, m.block(m.below(mostSize+1)))
	}
	return out
}

// writes so many, of count cells.
func (m *maker) writes(most, count int) (out []api.Write) {
	for range most {
		out = append(out, api.Write{At: m.below(count), B: m.block(m.below(mostSize + 1))})
	}
	return out
}

// w are writes: a cell, and its bytes behind it.
func w(pairs ...any) (out []api.Write) {
	for i := 0; i < len(pairs); i += 2 {
		out = append(out, api.Write{At: pairs[i].(int), B: pairs[i+1].(string)})
	}
	return out
}

func long(size int) string {
	return strings.Repeat("x", size)
}

func wantTold(t *testing.T, what string, err error, want api.Errno) {
	t.Helper()
	if plain.Told(err) != want || err == nil != (want == api.OK) {
		t.Errorf("%s: error %v, want %v", what, err, want)
	}
}

func wantNew(t *testing.T, cells ...string) *redo.Redo {
	t.Helper()
	r, err := redo.New(cells)
	if err != nil || r == nil {
		t.Fatalf("New of %q: %v, error %v", cells, r, err)
	}
	return r
}

func wantNoNew(t *testing.T, cells []string, told api.Errno) {
	t.Helper()
	r, err := redo.New(cells)
	wantTold(t, fmt.Sprintf("New of %d", len(cells)), err, told)
	if r != nil {
		t.Errorf("New of %d: a redo comes with the error", len(cells))
	}
}

func wantPut(t *testing.T, r *redo.Redo, l []api.Write, told api.Errno) {
	t.Helper()
	wantTold(t, fmt.Sprintf("Put of %d", len(l)), r.Put(l), told)
}

func wantSync(t *testing.T, r *redo.Redo, told api.Errno) {
	t.Helper()
	wantTold(t, "Sync", r.Sync(), told)
}

func wantAll(t *testing.T, r *redo.Redo, want ...string) {
	t.Helper()
	if got := r.All(); !slices.Equal(got, want) {
		t.Errorf("All: %q, want %q", got, want)
	}
}

func wantBytes(t *testing.T, r *redo.Redo, bytes, safe int) {
	t.Helper()
	if r.Bytes() != bytes || r.Safe() != safe {
		t.Errorf("Bytes and Safe: %d, %d, want %d, %d", r.Bytes(), r.Safe(), bytes, safe)
	}
}

// both does the same with a redo and its model, and holds one against the other.
type both struct {
	r *redo.Redo
	m *model
}

func newBoth(t *testing.T, cells ...string) both {
	t.Helper()
	x := both{wantNew(t, cells...), modelOf(cells)}
	x.same(t)
	return x
}

func (x both) same(t *testing.T) {
	t.Helper()
	wantAll(t, x.r, x.m.all()...)
	wantBytes(t, x.r, x.m.bytes(), x.m.safeBytes())
}

func (x both) put(t *testing.T, l []api.Write) {
	t.Helper()
	wantPut(t, x.r, l, x.m.put(l))
	x.same(t)
}

func (x both) sync(t *testing.T) {
	t.Helper()
	wantSync(t, x.r, x.m.sync())
	x.same(t)
}

func (x both) fail(t *testing.T, n int) {
	t.Helper()
	x.r.Fail(n)
	x.m.failAt(n)
	x.same(t)
}

func (x both) crash(t *testing.T, keep int) {
	t.Helper()
	x.r.Crash(keep)
	x.m.crash(keep)
	x.same(t)
}

// putThere is a put that must be taken.
func (x both) putThere(t *testing.T, l []api.Write) {
	t.Helper()
	was := len(x.m.puts)
	x.put(t, l)
	if len(x.m.puts) != was+1 {
		t.Errorf("Put of %d is not taken", len(l))
	}
}

func TestBoundsAreThoseOfTheChapter(t *testing.T) {
	if api.MaxCells != mostCells || api.MaxSize != mostSize {
		t.Errorf("MaxCells, MaxSize: %d, %d, want %d, %d", api.MaxCells, api.MaxSize, mostCells, mostSize)
	}
}

func TestNew(t *testing.T) {
	m := &maker{1}
	for count := range mostCells + 1 {
		for size := range mostSize + 1 {
			cells := m.cells(count)
			for i := range cells {
				cells[i] = m.block((i + size) % (mostSize + 1))
			}
			x := newBoth(t, cells...)
			wantBytes(t, x.r, 0, 0)
			wantAll(t, x.r, cells...)
			x.crash(t, all)
			x.sync(t)
			x.crash(t, 0)
			wantAll(t, x.r, cells...)
			wantBytes(t, x.r, 0, 0)
		}
	}
}

func TestNewOfTooMany(t *testing.T) {
	for _, count := range []int{41, 42, 80, 255, 256, 257, 296, 65536} {
		cells := make([]string, count)
		wantNoNew(t, cells, api.ErrFull)
		// Too many is told ahead of too long, wherever that one stands.
		for _, at := range []int{0, 39, 40, count - 1} {
			cells[at] = long(17)
			wantNoNew(t, cells, api.ErrFull)
		}
	}
}

func TestNewOfLongCells(t *testing.T) {
	for _, count := range []int{1, 2, 7, 39, 40} {
		for at := range count {
			for _, size := range longs {
				cells := make([]string, count)
				cells[at] = long(size)
				wantNoNew(t, cells, api.ErrRange)
			}
		}
	}
}

// Written out by hand: what the chapter says, one after another.
func TestByHand(t *testing.T) {
	r := wantNew(t, "a", "", "ccc")
	wantPut(t, r, w(1, "bb", 0, "", 1, "b"), api.OK)
	wantAll(t, r, "", "b", "ccc")
	one := r.Bytes()
	wantBytes(t, r, one, 0)
	wantSync(t, r, api.OK)
	wantBytes(t, r, one, one)
	wantPut(t, r, w(2, "d", 3, "e"), api.ErrRange)
	wantAll(t, r, "", "b", "ccc")
	wantBytes(t, r, one, one)
	wantPut(t, r, w(2, "d"), api.OK)
	two := r.Bytes()
	wantAll(t, r, "", "b", "d")
	wantBytes(t, r, two, one)
	r.Fail(1)
	wantPut(t, r, nil, api.OK)
	three := r.Bytes()
	wantPut(t, r, w(0, "lost"), api.ErrState)
	wantAll(t, r, "", "b", "d")
	if r.Bytes() <= three {
		t.Errorf("nothing is there of a record that stopped")
	}
	wantSync(t, r, api.ErrState)
	r.Crash(two - one)
	wantAll(t, r, "", "b", "d")
	wantBytes(t, r, two, two)
	wantPut(t, r, w(0, "A"), api.OK)
	wantAll(t, r, "A", "b", "d")
	r.Crash(0)
	wantAll(t, r, "", "b", "d")
	wantBytes(t, r, two, two)
}

// Each cell alone, and each size: it is written, and no other one, and after a crash it is so still.
func TestPutOfOne(t *testing.T) {
	m := &maker{2}
	for count := 1; count <= mostCells; count++ {
		for at := range count {
			x := newBoth(t, m.cells(count)...)
			want := x.r.All()
			want[at] = m.block((at + count) % (mostSize + 1))
			x.putThere(t, w(at, want[at]))
			wantAll(t, x.r, want...)
			x.crash(t, all)
			wantAll(t, x.r, want...)
		}
	}
}

// All bytes may be written, at each size.
func TestAllBytes(t *testing.T) {
	for size := 1; size <= mostSize; size++ {
		x := newBoth(t, "", "other")
		for b := range 256 {
			block := strings.Repeat(string([]byte{byte(b), byte(b + size)}), size)[:size]
			x.putThere(t, w(0, block))
			wantAll(t, x.r, block, "other")
		}
		last := x.r.All()
		x.crash(t, all)
		wantAll(t, x.r, last...)
	}
}

// Many at once, as far as there may be, and each number of them.
func TestPutOfMany(t *testing.T) {
	m := &maker{3}
	for most := range mostCells + 1 {
		x := newBoth(t, m.cells(mostCells)...)
		for range 4 {
			x.putThere(t, m.writes(most, mostCells))
		}
		want := x.r.All()
		x.crash(t, all)
		wantAll(t, x.r, want...)
	}
}

// The greatest record there may be: all cells, each of the most bytes.
func TestPutOfMost(t *testing.T) {
	m := &maker{4}
	x := newBoth(t, make([]string, mostCells)...)
	var l []api.Write
	var want []string
	for at := range mostCells {
		want = append(want, m.block(mostSize))
		l = append(l, api.Write{At: at, B: want[at]})
	}
	x.putThere(t, l)
	wantAll(t, x.r, want...)
	size := x.r.Bytes()
	x.sync(t)
	x.putThere(t, m.writes(mostCells, mostCells))
	x.crash(t, 0)
	wantAll(t, x.r, want...)
	wantBytes(t, x.r, size, size)
}

// In order: of several writes of one cell the last one stays, at once and after a crash.
func TestPutInOrder(t *testing.T) {
	x := newBoth(t, "a", "b")
	x.putThere(t, w(0, "1", 1, "2", 0, "3", 0, "", 1, "44", 0, "5"))
	wantAll(t, x.r, "5", "44")
	x.putThere(t, w(0, "6", 0, "7"))
	x.putThere(t, w(1, "long", 1, ""))
	wantAll(t, x.r, "7", "")
	x.crash(t, all)
	wantAll(t, x.r, "7", "")
	x = newBoth(t, "a")
	var many []api.Write
	for i := range mostCells {
		many = append(many, api.Write{At: 0, B: fmt.Sprint(i)})
	}
	x.putThere(t, many)
	wantAll(t, x.r, "39")
	x.crash(t, all)
	wantAll(t, x.r, "39")
}

// Of each record there are at least two bytes, even of one without writes; a put makes nothing safe.
func TestEachPutIsARecord(t *testing.T) {
	m := &maker{5}
	for _, count := range []int{0, 1, 2, 40} {
		r := wantNew(t, m.cells(count)...)
		for i := range 30 {
			was := r.Bytes()
			var l []api.Write
			if count > 0 {
				l = m.writes(i%3, count)
			}
			wantPut(t, r, l, api.OK)
			if r.Bytes() < was+2 {
				t.Errorf("Put of %d: %d bytes more, want at least 2", len(l), r.Bytes()-was)
			}
			if r.Safe() != 0 {
				t.Errorf("Safe: %d, want 0", r.Safe())
			}
		}
	}
}

// A put without writes changes no cell, but is a record, and a step.
func TestPutOfNone(t *testing.T) {
	for _, cells := range [][]string{nil, {""}, {"a", "b"}} {
		x := newBoth(t, cells...)
		x.putThere(t, nil)
		x.putThere(t, []api.Write{})
		x.fail(t, 1)
		x.putThere(t, nil)
		wantPut(t, x.r, nil, x.m.put(nil))
		x.same(t)
		if !x.m.stopped {
			t.Errorf("a put without writes is no step")
		}
		x.crash(t, all)
		wantAll(t, x.r, cells...)
		if len(x.m.puts) != 3 {
			t.Errorf("records: %d, want 3", len(x.m.puts))
		}
	}
}

// wrongs are writes that may not be, of count cells.
func wrongs(count int) (out []api.Write) {
	for _, at := range append([]int{count, count + 1, count + 40, 256, 257, 65536, 1 << 32, math.MaxInt32, math.MaxInt - 1, math.MaxInt}, below...) {
		out = append(out, api.Write{At: at, B: "x"})
		out = append(out, api.Write{At: at, B: ""})
		out = append(out, api.Write{At: at, B: long(17)})
	}
	for _, size := range longs {
		if count > 0 {
			out = append(out, api.Write{At: 0, B: long(size)}, api.Write{At: count - 1, B: long(size)})
		}
	}
	return out
}

// Where one is refused nothing is done, wherever it stands, of what is ahead of it and of what is behind.
func TestPutOfWhichOneIsRefused(t *testing.T) {
	m := &maker{6}
	for _, count := range []int{1, 2, 39, 40} {
		x := newBoth(t, m.cells(count)...)
		x.put(t, m.writes(2, count))
		x.sync(t)
		x.put(t, m.writes(2, count))
		for _, wrong := range wrongs(count) {
			for _, most := range []int{1, 2, 3, 40} {
				for _, at := range []int{0, most / 2, most - 1} {
					l := m.writes(most, count)
					l[at] = wrong
					wantPut(t, x.r, l, api.ErrRange)
					x.same(t)
				}
			}
		}
		x.crash(t, all)
	}
}

func TestPutWithoutCells(t *testing.T) {
	x := newBoth(t)
	for _, wrong := range wrongs(0) {
		wantPut(t, x.r, []api.Write{wrong}, api.ErrRange)
		x.same(t)
	}
	x.putThere(t, nil)
	x.crash(t, all)
	wantAll(t, x.r)
}

func TestPutOfTooMany(t *testing.T) {
	m := &maker{7}
	for _, count := range []int{1, 40} {
		x := newBoth(t, m.cells(count)...)
		x.putThere(t, m.writes(40, count))
		for _, most := range []int{41, 42, 80, 256, 257, 296, 65536} {
			wantPut(t, x.r, m.writes(most, count), api.ErrFull)
			x.same(t)
		}
	}
}

// stoppedAt has cells and a record, and has stopped at a put, or at a sync.
func stoppedAt(t *testing.T, sync bool) both {
	t.Helper()
	x := newBoth(t, "a", "b")
	x.putThere(t, w(0, "c"))
	x.fail(t, 0)
	if sync {
		x.sync(t)
	} else {
		x.put(t, w(1, "d"))
	}
	if !x.m.stopped {
		t.Fatalf("it has not stopped")
	}
	return x
}

// That it has stopped is told ahead of too many, and too many ahead of what is wrong with one of them.
func TestWhichErrorIsTold(t *testing.T) {
	m := &maker{8}
	many := m.writes(41, 2)
	manyAndWrong := m.writes(41, 2)
	wrong := m.writes(3, 2)
	manyAndWrong[0], wrong[1] = api.Write{At: 2}, api.Write{At: 0, B: long(17)}
	lists := [][]api.Write{many, manyAndWrong, wrong, wrongs(2), wrongs(2)[:1], nil, w(0, "e")}
	x := newBoth(t, "a", "b")
	for i, told := range []api.Errno{api.ErrFull, api.ErrFull, api.ErrRange, api.ErrFull, api.ErrRange, api.OK, api.OK} {
		if i == 3 && len(lists[i]) <= mostCells {
			t.Fatalf("not too many: %d", len(lists[i]))
		}
		wantPut(t, x.r, lists[i], told)
	}
	for _, sync := range []bool{false, true} {
		x := stoppedAt(t, sync)
		for _, l := range lists {
			wantPut(t, x.r, l, api.ErrState)
			x.same(t)
			wantSync(t, x.r, api.ErrState)
			x.same(t)
		}
	}
}

// A put that is refused comes to no record, and is no step: it does not stop it, and does not count.
func TestWhatIsRefusedIsNoStep(t *testing.T) {
	m := &maker{9}
	for n := range 5 {
		x := newBoth(t, "a", "b")
		x.fail(t, n)
		for range n {
			wantPut(t, x.r, w(0, "x", 2, "y"), api.ErrRange)
			wantPut(t, x.r, m.writes(41, 2), api.ErrFull)
			wantPut(t, x.r, w(0, long(17)), api.ErrRange)
			x.same(t)
			x.putThere(t, w(0, "z"))
		}
		wantPut(t, x.r, w(-1, "x"), api.ErrRange)
		wantPut(t, x.r, m.writes(41, 2), api.ErrFull)
		x.same(t)
		wantPut(t, x.r, w(1, "x"), api.ErrState)
		wantPut(t, x.r, w(-1, "x"), api.ErrState)
	}
}

func TestSync(t *testing.T) {
	x := newBoth(t, "a", "b")
	x.sync(t)
	wantBytes(t, x.r, 0, 0)
	x.putThere(t, w(0, "c"))
	one := x.r.Bytes()
	wantBytes(t, x.r, one, 0)
	x.sync(t)
	wantBytes(t, x.r, one, one)
	x.sync(t)
	wantBytes(t, x.r, one, one)
	x.putThere(t, w(1, "d"))
	two := x.r.Bytes()
	x.putThere(t, nil)
	wantBytes(t, x.r, x.r.Bytes(), one)
	x.crash(t, two-one)
	wantAll(t, x.r, "c", "d")
	wantBytes(t, x.r, two, two)
}

// isSync tells, by a binary digit of a pattern, that a step is a sync, and not a put.
func isSync(pattern, step int) bool {
	return pattern>>step&1 == 1
}

// At each step it stops, be it a put or a sync, and whatever came ahead of it; from there on all is ErrState, and nothing changes, until a crash.
func TestFailAtEachStep(t *testing.T) {
	const steps = 5
	m := &maker{10}
	for pattern := range 1 << steps {
		for n := range steps {
			x := newBoth(t, m.cells(3)...)
			x.fail(t, n)
			for step := range steps {
				told := api.OK
				if step >= n {
					told = api.ErrState
				}
				if isSync(pattern, step) {
					wantSync(t, x.r, told)
					x.m.sync()
				} else {
					l := m.writes(m.below(3), 3)
					wantPut(t, x.r, l, told)
					x.m.put(l)
				}
				x.same(t)
			}
			x.crash(t, m.below(60)-5)
			x.putThere(t, m.writes(2, 3))
			x.sync(t)
			wantBytes(t, x.r, x.r.Bytes(), x.r.Bytes())
		}
	}
}

// Of a record that stopped half the bytes, rounded down, are there, and no crash makes a record of them.
func TestHalfOfARecord(t *testing.T) {
	odd, even := 0, 0
	for count := range 4 {
		for size := range mostSize + 1 {
			var l []api.Write
			for at := range count {
				l = append(l, api.Write{At: at, B: long(size - at%(size+1))})
			}
			whole := sizeOf(l)
			if whole%2 == 1 {
				odd++
			} else {
				even++
			}
			for _, keep := range []int{all, 1_000_000, whole, whole / 2, whole/2 - 1, 1, 0, -1} {
				r := wantNew(t, "a", "", "c")
				wantPut(t, r, w(1, "b"), api.OK)
				was := r.Bytes()
				wantSync(t, r, api.OK)
				r.Fail(0)
				wantPut(t, r, l, api.ErrState)
				wantBytes(t, r, was+whole/2, was)
				wantAll(t, r, "a", "b", "c")
				r.Crash(keep)
				wantBytes(t, r, was, was)
				wantAll(t, r, "a", "b", "c")
				wantPut(t, r, l, api.OK)
				wantBytes(t, r, was+whole, was)
			}
		}
	}
	if odd == 0 || even == 0 {
		t.Errorf("sizes of records: %d odd, %d even: both are to be held", odd, even)
	}
}

// The greatest record, too, is there by half, and is none.
func TestHalfOfTheGreatestRecord(t *testing.T) {
	m := &maker{11}
	for range 20 {
		x := newBoth(t, m.cells(mostCells)...)
		x.putThere(t, m.writes(3, mostCells))
		x.fail(t, 0)
		x.put(t, m.writes(mostCells, mostCells))
		x.crash(t, all)
		if len(x.m.puts) != 1 {
			t.Errorf("records: %d, want 1", len(x.m.puts))
		}
	}
}

// A sync that stops makes nothing safe.
func TestSyncThatStops(t *testing.T) {
	for _, keep := range []int{0, all} {
		r := wantNew(t, "a")
		wantPut(t, r, w(0, "b"), api.OK)
		one := r.Bytes()
		wantSync(t, r, api.OK)
		wantPut(t, r, w(0, "c"), api.OK)
		two := r.Bytes()
		r.Fail(0)
		wantSync(t, r, api.ErrState)
		wantBytes(t, r, two, one)
		wantAll(t, r, "c")
		wantSync(t, r, api.ErrState)
		wantPut(t, r, nil, api.ErrState)
		wantBytes(t, r, two, one)
		r.Crash(keep)
		if keep == 0 {
			wantAll(t, r, "b")
			wantBytes(t, r, one, one)
		} else {
			wantAll(t, r, "c")
			wantBytes(t, r, two, two)
		}
	}
}

// takes tells how many steps are taken before one stops, of at most so many, puts and syncs by turns.
func takes(r *redo.Redo, most int) (count int) {
	for count < most {
		var err error
		if count%2 == 0 {
			err = r.Put(nil)
		} else {
			err = r.Sync()
		}
		if err != nil {
			return count
		}
		count++
	}
	return count
}

func wantTakes(t *testing.T, r *redo.Redo, most, want int) {
	t.Helper()
	if got := takes(r, most); got != want {
		t.Errorf("%d steps were taken, want %d", got, want)
	}
}

func TestFailInSoManySteps(t *testing.T) {
	wantTakes(t, wantNew(t, "a"), 1000, 1000)
	for _, n := range []int{0, 1, 2, 3, 7, 40, 255, 256, 257, 999} {
		r := wantNew(t, "a")
		r.Fail(n)
		wantTakes(t, r, 1000, n)
		wantTakes(t, r, 1000, 0)
	}
}

func TestFailNever(t *testing.T) {
	for _, n := range append([]int{1 << 32, 1 << 40, math.MaxInt32, math.MaxInt - 1, math.MaxInt}, below...) {
		r := wantNew(t, "a")
		r.Fail(n)
		wantTakes(t, r, 1000, 1000)
		wantPut(t, r, w(0, "b"), api.OK)
		wantSync(t, r, api.OK)
	}
}

// A new one takes the place of the one ahead, be it sooner, later or never, and counts from now on.
func TestFailTakesThePlaceOfTheOneAhead(t *testing.T) {
	numbers := []int{0, 1, 2, 3, 5, 9, -1, math.MinInt, math.MaxInt}
	for _, first := range numbers {
		for between := range 6 {
			for _, second := range numbers {
				if first >= 0 && between > first {
					continue
				}
				r := wantNew(t, "a")
				r.Fail(first)
				wantTakes(t, r, between, between)
				r.Fail(second)
				want := second
				if second < 0 || second > 50 {
					want = 50
				}
				wantTakes(t, r, 50, want)
			}
		}
	}
}

// What Fail says to one that has stopped does not make it go on, and a crash forgets that, too.
func TestFailOfOneThatHasStopped(t *testing.T) {
	for _, sync := range []bool{false, true} {
		for _, n := range []int{-1, 0, 1, 2, math.MinInt, math.MaxInt} {
			x := stoppedAt(t, sync)
			x.fail(t, n)
			wantSync(t, x.r, api.ErrState)
			wantPut(t, x.r, w(0, "e"), api.ErrState)
			wantPut(t, x.r, nil, api.ErrState)
			x.same(t)
			x.crash(t, all)
			wantTakes(t, x.r, 50, 50)
		}
	}
}

// A crash forgets what Fail said, be it reached or not.
func TestCrashForgetsFail(t *testing.T) {
	for n := range 6 {
		for taken := range n + 2 {
			r := wantNew(t, "a")
			r.Fail(n)
			wantTakes(t, r, taken, min(taken, n))
			r.Crash(0)
			wantTakes(t, r, 50, 50)
			r.Fail(n)
			wantTakes(t, r, 50, n)
		}
	}
}

// What asks is no step: only a put and a sync count.
func TestWhatIsNoStep(t *testing.T) {
	r := wantNew(t, "a")
	for n := range 4 {
		r.Fail(n)
		for range 5 {
			wantAll(t, r, "a")
			wantBytes(t, r, r.Bytes(), r.Safe())
		}
		wantTakes(t, r, 50, n)
		r.Crash(all)
	}
}

// Of what is not safe any number of bytes may be left: whole records are, what is behind them is not.
func TestCrashKeeps(t *testing.T) {
	lists := [][]api.Write{w(0, "safe", 1, "S"), w(2, ""), w(0, "one"), nil, w(1, "two", 0, "", 1, ""), w(2, long(16), 2, "\x00\x02\x00\x00"), w(3, "four")}
	for synced := range len(lists) + 1 {
		for _, stops := range []bool{false, true} {
			played := func() both {
				x := newBoth(t, "a", "b", "c", "d")
				for i, l := range lists {
					if i == synced {
						x.sync(t)
					}
					if i == len(lists)-1 && stops {
						x.fail(t, 0)
					}
					x.put(t, l)
				}
				if synced == len(lists) {
					x.sync(t)
				}
				return x
			}
			x := played()
			most := x.r.Bytes() - x.r.Safe()
			keeps := append([]int{most + 1000, 1_000_000, math.MaxInt - 1, math.MaxInt}, below...)
			for keep := range most + 3 {
				keeps = append(keeps, keep)
			}
			for _, keep := range keeps {
				x := played()
				x.crash(t, keep)
				if x.r.Bytes() != x.r.Safe() {
					t.Errorf("Crash of %d: %d bytes, %d safe", keep, x.r.Bytes(), x.r.Safe())
				}
				x.putThere(t, w(3, "on"))
				x.crash(t, all)
			}
		}
	}
}

// The first bytes of what is not safe are left, not the first of all, and not the last.
func TestCrashKeepsTheFirst(t *testing.T) {
	for _, c := range []struct {
		keep int
		want []string
	}{{-1, []string{"0", "b"}}, {0, []string{"0", "b"}}, {1, []string{"1", "b"}}, {2, []string{"1", "2"}}, {3, []string{"3", "2"}}, {4, []string{"3", "2"}}} {
		r := wantNew(t, "a", "b")
		wantPut(t, r, w(0, "0"), api.OK)
		size := r.Bytes()
		wantSync(t, r, api.OK)
		for _, l := range [][]api.Write{w(0, "1"), w(1, "2"), w(0, "3")} {
			wantPut(t, r, l, api.OK)
		}
		wantBytes(t, r, 4*size, size)
		r.Crash(c.keep * size)
		wantAll(t, r, c.want...)
		if c.keep > 0 {
			// One byte less is one record less.
			r := wantNew(t, "a")
			for range c.keep {
				wantPut(t, r, w(0, "x"), api.OK)
			}
			r.Crash(c.keep*size - 1)
			wantBytes(t, r, (c.keep-1)*size, (c.keep-1)*size)
		}
	}
}

// Bytes that a record was cut off at are not made up for by those of a later one.
func TestCrashCutsOffForGood(t *testing.T) {
	for keep := range 12 {
		x := newBoth(t, "a", "b")
		x.putThere(t, w(0, "\x00\x03\x01\x01"))
		x.sync(t)
		x.putThere(t, w(1, "\x00\x00\x00\x00\x00\x00"))
		x.crash(t, min(keep, sizeOf(w(1, "123456"))-1))
		wantAll(t, x.r, "\x00\x03\x01\x01", "b")
		x.putThere(t, w(0, "c"))
		x.putThere(t, nil)
		x.crash(t, all)
		wantAll(t, x.r, "c", "b")
		x.crash(t, 0)
		wantAll(t, x.r, "c", "b")
	}
}

// What is left is safe: one crash more takes nothing of it.
func TestWhatIsLeftIsSafe(t *testing.T) {
	m := &maker{12}
	for range 100 {
		x := newBoth(t, m.cells(5)...)
		for range 4 {
			x.putThere(t, m.writes(m.below(4), 5))
		}
		x.crash(t, m.below(x.r.Bytes()+1))
		want, bytes := x.r.All(), x.r.Bytes()
		for _, keep := range []int{0, -1, all, math.MinInt} {
			x.crash(t, keep)
			wantAll(t, x.r, want...)
			wantBytes(t, x.r, bytes, bytes)
		}
	}
}

// After a crash it goes on as before: what is put then is there, is made safe, and is lost, as ever.
func TestCrashGoesOn(t *testing.T) {
	for _, sync := range []bool{false, true} {
		for _, keep := range []int{0, all} {
			x := stoppedAt(t, sync)
			x.crash(t, keep)
			x.putThere(t, w(1, "e"))
			x.sync(t)
			x.putThere(t, w(0, "f", 1, "g"))
			want := []string{"a", "e"}
			if keep == all {
				want[0] = "c"
			}
			x.crash(t, 0)
			wantAll(t, x.r, want...)
			x.fail(t, 1)
			x.putThere(t, w(0, "h"))
			x.sync(t)
			if !x.m.stopped {
				t.Errorf("it does not stop for a second time")
			}
			x.crash(t, 0)
			wantAll(t, x.r, want...)
		}
	}
}

// A log of many bytes, more than two bytes can count.
func TestLongLog(t *testing.T) {
	m := &maker{13}
	r := wantNew(t, m.cells(mostCells)...)
	var cells [][]string
	var bytes []int
	for i := range 400 {
		wantPut(t, r, m.writes(mostCells, mostCells), api.OK)
		cells, bytes = append(cells, r.All()), append(bytes, r.Bytes())
		if i == 199 {
			wantSync(t, r, api.OK)
		}
	}
	if bytes[199] < 1<<16 {
		t.Fatalf("the log is short: %d", bytes[199])
	}
	r.Crash(bytes[350] - bytes[199] + 1)
	wantAll(t, r, cells[350]...)
	wantBytes(t, r, bytes[350], bytes[350])
	wantPut(t, r, nil, api.OK)
	r.Crash(0)
	wantAll(t, r, cells[350]...)
}

// Long rows of calls, right and wrong, answer as the model says, and leave what it says.
func TestManySteps(t *testing.T) {
	m := &maker{14}
	for round := range 600 {
		x := newBoth(t, m.cells(round%(mostCells+1))...)
		for range 60 {
			x.anyStep(t, m)
		}
		x.crash(t, all)
		x.crash(t, 0)
	}
}

func (x both) anyStep(t *testing.T, m *maker) {
	t.Helper()
	count := len(x.m.first)
	switch m.below(20) {
	case 0, 1, 2:
		x.sync(t)
	case 3:
		x.crash(t, m.below(x.m.bytes()-x.m.safeBytes()+3)-1)
	case 4:
		x.fail(t, m.below(14)-2)
	case 5:
		x.put(t, m.writes(41, count+1))
	case 6:
		l := m.writes(1+m.below(4), count+1)
		wrong := wrongs(count)
		l[m.below(len(l))] = wrong[m.below(len(wrong))]
		x.put(t, l)
	case 7:
		x.put(t, nil)
	default:
		x.put(t, m.writes(m.below(5), max(count, 1)))
	}
}

// With an error nothing is changed: whatever is done later, it is answered as if the call had not been.
func TestNothingIsChangedWithAnError(t *testing.T) {
	m := &maker{15}
	for range 60 {
		count := 1 + m.below(6)
		x := newBoth(t, m.cells(count)...)
		for range 30 {
			x.anyStep(t, m)
			// The model knows nothing of these.
			if x.m.stopped {
				wantSync(t, x.r, api.ErrState)
				wantPut(t, x.r, m.writes(2, count), api.ErrState)
				continue
			}
			wantPut(t, x.r, m.writes(41, count), api.ErrFull)
			for _, wrong := range wrongs(count) {
				wantPut(t, x.r, append(m.writes(2, count), wrong), api.ErrRange)
			}
			x.same(t)
		}
		x.crash(t, m.below(50))
	}
}

// Two redos have nothing in common.
func TestRedosAreApart(t *testing.T) {
	cells := []string{"a", "b"}
	first, second := wantNew(t, cells...), wantNew(t, cells...)
	wantPut(t, first, w(0, "c"), api.OK)
	wantAll(t, second, "a", "b")
	wantBytes(t, second, 0, 0)
	first.Fail(0)
	wantSync(t, second, api.OK)
	wantPut(t, second, w(1, "d"), api.OK)
	wantSync(t, second, api.OK)
	wantSync(t, first, api.ErrState)
	wantPut(t, second, nil, api.OK)
	wantAll(t, first, "c", "b")
	first.Crash(0)
	wantAll(t, first, "a", "b")
	wantBytes(t, first, 0, 0)
	wantAll(t, second, "a", "d")
}

// held is a list in memory that is longer, with what it was.
type held[T comparable] struct{ list, memory, was []T }

func hold[T comparable](list []T, behind T) held[T] {
	memory := append(slices.Clone(list), behind, behind, behind)
	return held[T]{memory[:len(list)], memory, slices.Clone(memory)}
}

func (h held[T]) wantStays(t *testing.T, what string) {
	t.Helper()
	if !slices.Equal(h.memory, h.was) {
		t.Errorf("%s: the list became %v, was %v", what, h.memory, h.was)
	}
}

// Lists that come in stay as they are, also where they are refused or it stops, and so does what lies behind them, which is not read.
func TestWhatIsHandedInStays(t *testing.T) {
	m := &maker{16}
	for count := range mostCells + 1 {
		cells := hold(m.cells(count), long(17))
		r, err := redo.New(cells.list)
		wantTold(t, "New", err, api.OK)
		cells.wantStays(t, "New")
		lists := [][]api.Write{nil, m.writes(41, 40), wrongs(count)[:3]}
		if count > 0 {
			lists = append(lists, m.writes(1, count), m.writes(5, count), m.writes(40, count))
		}
		for _, l := range lists {
			for _, n := range []int{-1, 0} {
				h := hold(l, api.Write{At: -1, B: long(17)})
				r.Fail(n)
				err := r.Put(h.list)
				h.wantStays(t, fmt.Sprintf("Put of %d, error %v", len(l), err))
				r.Crash(all)
				h.wantStays(t, "Crash")
			}
		}
		cells.wantStays(t, "all of it")
	}
	tooMany := hold(m.cells(41), "")
	wantNoNew(t, tooMany.list, api.ErrFull)
	tooMany.wantStays(t, "New of too many")
	tooLong := hold([]string{"a", long(17)}, "")
	wantNoNew(t, tooLong.list, api.ErrRange)
	tooLong.wantStays(t, "New of a long one")
}

// Lists that came in are not kept: what is done with them later reaches nobody.
func TestListsThatCameInAreNotKept(t *testing.T) {
	cells := []string{"a", "b"}
	r := wantNew(t, cells...)
	l := w(0, "c", 1, "d")
	wantPut(t, r, l, api.OK)
	cells[0], cells[1] = "x", "y"
	l[0], l[1] = api.Write{At: 1, B: "z"}, api.Write{At: 7, B: "z"}
	wantAll(t, r, "c", "d")
	half := w(0, "e", 1, "f")
	r.Fail(0)
	wantPut(t, r, half, api.ErrState)
	half[0], half[1] = api.Write{At: 1, B: "z"}, api.Write{At: 7, B: "z"}
	wantAll(t, r, "c", "d")
	r.Crash(all)
	wantAll(t, r, "c", "d")
	r = wantNew(t, "a")
	wantPut(t, r, w(0, "b"), api.OK)
	r.Crash(0)
	wantAll(t, r, "a")
}

// Nor is the memory of texts kept.
func TestTextsThatCameInAreNotKept(t *testing.T) {
	memory := []byte("abcdefgh")
	r := wantNew(t, unsafe.String(&memory[0], 4), unsafe.String(&memory[4], 4))
	memory[0], memory[5] = 'X', 'Y'
	wantAll(t, r, "abcd", "efgh")
	other := []byte("ijkl")
	wantPut(t, r, w(1, unsafe.String(&other[0], 4)), api.OK)
	other[1] = 'Z'
	wantAll(t, r, "abcd", "ijkl")
	wantSync(t, r, api.OK)
	r.Crash(0)
	wantAll(t, r, "abcd", "ijkl")
}

// What came out is the caller's: it stays as it is, and what is done with it reaches nobody.
func TestWhatComesOutIsFresh(t *testing.T) {
	r := wantNew(t, "aaaa", "bb", "")
	wantPut(t, r, w(1, "cccc"), api.OK)
	want := []string{"aaaa", "cccc", ""}
	first, second := r.All(), r.All()
	for i := range 2 {
		if unsafe.StringData(first[i]) == unsafe.StringData(second[i]) {
			t.Errorf("cell %d: the texts of two answers share memory", i)
		}
	}
	first = first[:cap(first)]
	for i := range first {
		first[i] = "changed"
	}
	wantAll(t, r, want...)
	if !slices.Equal(second, want) {
		t.Errorf("answers share memory: %q", second)
	}
	wantPut(t, r, w(0, "d", 1, "e", 2, "f"), api.OK)
	r.Crash(0)
	wantPut(t, r, w(0, "g", 1, "h", 2, "i"), api.OK)
	if !slices.Equal(second, want) {
		t.Errorf("what came out changed: %q, want %q", second, want)
	}
	// Those of New are not reached either.
	one := wantNew(t, "a", "b")
	one.All()[0] = "changed"
	one.Crash(0)
	wantAll(t, one, "a", "b")
	one.All()[0] = "changed"
	one.Crash(0)
	wantAll(t, one, "a", "b")
}

func TestNothingAndNilAreTheSame(t *testing.T) {
	for _, cells := range [][]string{nil, {}} {
		r, err := redo.New(cells)
		wantTold(t, "New of none", err, api.OK)
		for _, l := range [][]api.Write{nil, {}} {
			was := r.Bytes()
			wantPut(t, r, l, api.OK)
			if more := r.Bytes() - was; more != sizeOf(nil) {
				t.Errorf("a record without writes: %d bytes, want %d", more, sizeOf(nil))
			}
		}
		wantAll(t, r)
	}
}

// The same calls on another redo of the same cells are answered the same.
func TestSameAnswersAgain(t *testing.T) {
	played := func() (out []string) {
		m := &maker{17}
		r := wantNew(t, m.cells(7)...)
		for range 500 {
			var err error
			switch m.below(8) {
			case 0:
				err = r.Sync()
			case 1:
				r.Crash(m.below(100))
			case 2:
				r.Fail(m.below(10))
			default:
				err = r.Put(m.writes(m.below(42), 7))
			}
			out = append(out, fmt.Sprint(plain.Told(err), r.All(), r.Bytes(), r.Safe()))
		}
		return out
	}
	if first, second := played(), played(); !slices.Equal(first, second) {
		t.Errorf("answers differ")
	}
}

func TestErrorsAreTheNumbersOfThePromise(t *testing.T) {
	_, many := redo.New(make([]string, 41))
	_, big := redo.New([]string{long(17)})
	r := wantNew(t, "a")
	errs := []error{many, big, r.Put(make([]api.Write, 41)), r.Put(w(1, "")), r.Put(w(-1, "")), r.Put(w(0, long(17)))}
	r.Fail(0)
	errs = append(errs, r.Put(nil), r.Put(nil), r.Sync())
	r.Crash(0)
	r.Fail(0)
	errs = append(errs, r.Sync())
	for k, err := range errs {
		if want := []api.Errno{4, 1, 4, 1, 1, 1, 6, 6, 6, 6}[k]; plain.Told(err) != want {
			t.Errorf("told %d of error %d, want %d", plain.Told(err), k, want)
		}
	}
}
