package cache_test

import (
	"fmt"
	"math"
	"slices"
	"strings"
	"testing"
	"unsafe"

	"paritymill/api"
	"paritymill/cache"
	"paritymill/plain"
)

// below are numbers that are none of cells, no room, and none to flush.
var below = []int{-1, -2, -12, -16, -40, -256, -65536, math.MinInt32, math.MinInt + 1, math.MinInt}

// longs are sizes that no cell has; some of them look like others where they are cut to a byte or two.
var longs = []int{17, 18, 32, 255, 256, 257, 272, 65536, 65540}

// noRooms are rooms that no cache has.
var noRooms = append([]int{0, 13, 14, 24, 40, 255, 256, 257, 1 << 32, 1<<32 + 1, math.MaxInt32, math.MaxInt - 1, math.MaxInt}, below...)

// noCells are numbers of which there is no cell, if there are count of them.
func noCells(count int) []int {
	return append([]int{count, count + 1, count + 12, count + 40, 256, 257, 65536, 1 << 32, 1<<32 + 1, math.MaxInt32, math.MaxInt - 1, math.MaxInt}, below...)
}

// maker makes the same numbers in each run.
type maker struct{ state uint64 }

func (m *maker) below(n int) int {
	m.state = m.state*6364136223846793005 + 1442695040888963407
	return int(m.state>>33) % n
}

func (m *maker) block(size int) string {
	b := make([]byte, size)
	for i := range b {
		b[i] = byte(m.below(256))
	}
	return string(b)
}

// any block that a cell may have.
func (m *maker) any() string {
	return m.block(m.below(mostSize + 1))
}

// cells so many, of any sizes.
func (m *maker) cells(count int) (out []string) {
	for range count {
		out = append(out, m.any())
	}
	return out
}

// longest is made once, since many long ones are asked for.
var longest = strings.Repeat("x", 65540)

func long(size int) string {
	return longest[:size]
}

// count from one number on, so many.
func count(from, many int) (out []int) {
	for i := range many {
		out = append(out, from+i)
	}
	return out
}

func wantTold(t *testing.T, what string, err error, want api.Errno) {
	t.Helper()
	if plain.Told(err) != want || err == nil != (want == api.OK) {
		t.Errorf("%s: error %v, want %v", what, err, want)
	}
}

func wantNew(t *testing.T, room int, cells ...string) *cache.Cache {
	t.Helper()
	c, err := cache.New(cells, room)
	if err != nil || c == nil {
		t.Fatalf("New of %q, room %d: %v, error %v", cells, room, c, err)
	}
	return c
}

func wantNoNew(t *testing.T, cells []string, room int, told api.Errno) {
	t.Helper()
	c, err := cache.New(cells, room)
	wantTold(t, fmt.Sprintf("New of %d, room %d", len(cells), room), err, told)
	if c != nil {
		t.Errorf("New of %d, room %d: a cache comes with the error", len(cells), room)
	}
}

func wantRead(t *testing.T, c *cache.Cache, i int, want string, told api.Errno) {
	t.Helper()
	got, err := c.Read(i)
	wantTold(t, fmt.Sprintf("Read of %d", i), err, told)
	if got != want {
		t.Errorf("Read of %d: %q, want %q", i, got, want)
	}
}

func wantWrite(t *testing.T, c *cache.Cache, i int, b string, told api.Errno) {
	t.Helper()
	wantTold(t, fmt.Sprintf("Write of %d, %d bytes", i, len(b)), c.Write(i, b), told)
}

func wantFlush(t *testing.T, c *cache.Cache, n int, told api.Errno, want ...int) {
	t.Helper()
	got, err := c.Flush(n)
	wantTold(t, fmt.Sprintf("Flush of %d", n), err, told)
	if !slices.Equal(got, want) {
		t.Errorf("Flush of %d: %v, want %v", n, got, want)
	}
}

func wantHas(t *testing.T, c *cache.Cache, want ...int) {
	t.Helper()
	if got := c.Has(); !slices.Equal(got, want) {
		t.Errorf("Has: %v, want %v", got, want)
	}
}

func wantDirty(t *testing.T, c *cache.Cache, want ...int) {
	t.Helper()
	if got := c.Dirty(); !slices.Equal(got, want) {
		t.Errorf("Dirty: %v, want %v", got, want)
	}
}

func wantBelow(t *testing.T, c *cache.Cache, want ...string) {
	t.Helper()
	if got := c.Below(); !slices.Equal(got, want) {
		t.Errorf("Below: %q, want %q", got, want)
	}
}

func wantHits(t *testing.T, c *cache.Cache, want int) {
	t.Helper()
	if got := c.Hits(); got != want {
		t.Errorf("Hits: %d, want %d", got, want)
	}
}

// both does the same with a cache and its model, and holds one against the other.
type both struct {
	c *cache.Cache
	m *model
}

func newBoth(t *testing.T, room int, cells ...string) both {
	t.Helper()
	x := both{wantNew(t, room, cells...), modelOf(cells, room)}
	x.same(t)
	return x
}

func (x both) same(t *testing.T) {
	t.Helper()
	wantHas(t, x.c, x.m.there...)
	wantDirty(t, x.c, x.m.dirty...)
	wantBelow(t, x.c, x.m.under...)
	wantHits(t, x.c, x.m.hits)
}

func (x both) read(t *testing.T, i int) {
	t.Helper()
	want, told := x.m.read(i)
	wantRead(t, x.c, i, want, told)
	x.same(t)
}

func (x both) write(t *testing.T, i int, b string) {
	t.Helper()
	wantWrite(t, x.c, i, b, x.m.write(i, b))
	x.same(t)
}

func (x both) flush(t *testing.T, n int) {
	t.Helper()
	want, told := x.m.flush(n)
	wantFlush(t, x.c, n, told, want...)
	x.same(t)
}

func (x both) crash(t *testing.T) {
	t.Helper()
	x.c.Crash()
	x.m.crash()
	x.same(t)
}

// unwind reads all, so that all that is kept of both is held against each other, and does so again with what a crash leaves.
func (x both) unwind(t *testing.T) {
	t.Helper()
	for range 2 {
		for _, i := range append(slices.Clone(x.m.there), count(0, len(x.m.seen))...) {
			x.read(t, i)
		}
		x.crash(t)
	}
}

func TestBoundsAreThoseOfTheChapter(t *testing.T) {
	if api.MaxCells != mostCells || api.MaxSize != mostSize || api.MaxRoom != mostRoom {
		t.Errorf("MaxCells, MaxSize, MaxRoom: %d, %d, %d, want %d, %d, %d", api.MaxCells, api.MaxSize, api.MaxRoom, mostCells, mostSize, mostRoom)
	}
}

func TestNew(t *testing.T) {
	m := &maker{1}
	for many := range mostCells + 1 {
		for room := 1; room <= mostRoom; room++ {
			cells := m.cells(many)
			for i := range cells {
				cells[i] = m.block((i + room) % (mostSize + 1))
			}
			c := wantNew(t, room, cells...)
			wantHas(t, c)
			wantDirty(t, c)
			wantBelow(t, c, cells...)
			wantHits(t, c, 0)
			wantFlush(t, c, 40, api.OK)
			c.Crash()
			wantBelow(t, c, cells...)
			for i, b := range cells {
				wantRead(t, c, i, b, api.OK)
			}
			wantHits(t, c, 0)
		}
	}
}

// Too many is told ahead of too long, wherever that one stands, and ahead of a room that may not be.
func TestNewOfTooMany(t *testing.T) {
	for _, many := range []int{41, 42, 80, 255, 256, 257, 296, 65536} {
		cells := make([]string, many)
		wantNoNew(t, cells, 12, api.ErrFull)
		for _, at := range []int{0, 39, 40, many - 1} {
			cells[at] = long(17)
			wantNoNew(t, cells, 1, api.ErrFull)
			wantNoNew(t, cells, 0, api.ErrFull)
		}
		for _, room := range noRooms {
			wantNoNew(t, make([]string, many), room, api.ErrFull)
		}
	}
}

func TestNewOfLongCells(t *testing.T) {
	for _, many := range []int{1, 2, 7, 39, 40} {
		for at := range many {
			for _, size := range longs {
				cells := make([]string, many)
				cells[at] = long(size)
				wantNoNew(t, cells, 1, api.ErrRange)
				wantNoNew(t, cells, 12, api.ErrRange)
				wantNoNew(t, cells, 13, api.ErrRange)
			}
		}
	}
}

func TestNewOfNoSuchRoom(t *testing.T) {
	for _, room := range noRooms {
		for _, many := range []int{0, 1, 12, 13, 40} {
			wantNoNew(t, make([]string, many), room, api.ErrRange)
		}
	}
}

// Written out by hand: what the chapter says, one after another.
func TestByHand(t *testing.T) {
	c := wantNew(t, 2, "a", "", "ccc")
	wantRead(t, c, 2, "ccc", api.OK)
	wantHits(t, c, 0)
	wantRead(t, c, 2, "ccc", api.OK)
	wantHits(t, c, 1)
	wantWrite(t, c, 0, "A", api.OK)
	wantHas(t, c, 2, 0)
	wantDirty(t, c, 0)
	wantBelow(t, c, "a", "", "ccc")
	wantRead(t, c, 0, "A", api.OK)
	wantHits(t, c, 2)
	wantWrite(t, c, 1, "B", api.OK)
	wantHas(t, c, 0, 1)
	wantDirty(t, c, 0, 1)
	wantBelow(t, c, "a", "", "ccc")
	wantWrite(t, c, 0, "AA", api.OK)
	wantHas(t, c, 1, 0)
	wantDirty(t, c, 0, 1)
	wantRead(t, c, 2, "ccc", api.OK)
	wantHas(t, c, 0, 2)
	wantDirty(t, c, 0)
	wantBelow(t, c, "a", "B", "ccc")
	wantFlush(t, c, 1, api.OK, 0)
	wantHas(t, c, 0, 2)
	wantDirty(t, c)
	wantBelow(t, c, "AA", "B", "ccc")
	wantWrite(t, c, 2, "", api.OK)
	c.Crash()
	wantHas(t, c)
	wantDirty(t, c)
	wantBelow(t, c, "AA", "B", "ccc")
	wantHits(t, c, 2)
	wantRead(t, c, 2, "ccc", api.OK)
	wantHits(t, c, 2)
}

// Each cell alone, in each room: it is there, and is read from there, and no other one is.
func TestReadOfOne(t *testing.T) {
	m := &maker{2}
	for _, many := range []int{1, 2, 12, 13, 40} {
		for at := range many {
			for room := 1; room <= mostRoom; room++ {
				cells := m.cells(many)
				c := wantNew(t, room, cells...)
				for hits := range 4 {
					wantRead(t, c, at, cells[at], api.OK)
					wantHas(t, c, at)
					wantDirty(t, c)
					wantHits(t, c, hits)
				}
				wantBelow(t, c, cells...)
			}
		}
	}
}

// Each cell alone, and each size: it is there and dirty, what is below is as it was, and a flush writes it, and no other one.
func TestWriteOfOne(t *testing.T) {
	m := &maker{3}
	for _, many := range []int{1, 2, 12, 13, 40} {
		for at := range many {
			for size := range mostSize + 1 {
				cells := m.cells(many)
				c := wantNew(t, 1+size%mostRoom, cells...)
				b := m.block(size)
				wantWrite(t, c, at, b, api.OK)
				wantHas(t, c, at)
				wantDirty(t, c, at)
				wantBelow(t, c, cells...)
				wantHits(t, c, 0)
				wantRead(t, c, at, b, api.OK)
				wantHits(t, c, 1)
				cells[at] = b
				wantFlush(t, c, 1, api.OK, at)
				wantBelow(t, c, cells...)
				wantDirty(t, c)
				wantHas(t, c, at)
				wantRead(t, c, at, b, api.OK)
				wantHits(t, c, 2)
			}
		}
	}
}

// All bytes may be written, at each size.
func TestAllBytes(t *testing.T) {
	for size := 1; size <= mostSize; size++ {
		c := wantNew(t, 1, "", "other")
		for b := range 256 {
			block := strings.Repeat(string([]byte{byte(b), byte(b + size)}), size)[:size]
			wantWrite(t, c, 0, block, api.OK)
			wantRead(t, c, 0, block, api.OK)
			wantRead(t, c, 1, "other", api.OK)
			wantBelow(t, c, block, "other")
			wantRead(t, c, 0, block, api.OK)
		}
	}
}

// A write of what is there already, below or in the cache, is one: it is dirty then.
func TestWriteOfTheSame(t *testing.T) {
	c := wantNew(t, 3, "a", "")
	wantWrite(t, c, 0, "a", api.OK)
	wantDirty(t, c, 0)
	wantWrite(t, c, 1, "", api.OK)
	wantDirty(t, c, 0, 1)
	wantFlush(t, c, 1, api.OK, 0)
	wantDirty(t, c, 1)
	wantWrite(t, c, 0, "a", api.OK)
	wantDirty(t, c, 1, 0)
	wantFlush(t, c, 5, api.OK, 1, 0)
	wantBelow(t, c, "a", "")
}

// Only a read of a cell that is there is a Hit: no write is, and no read of one that went, or crashed, or is not.
func TestHits(t *testing.T) {
	c := wantNew(t, 2, "a", "b", "c")
	wantWrite(t, c, 0, "A", api.OK)
	wantWrite(t, c, 0, "A", api.OK)
	wantHits(t, c, 0)
	wantRead(t, c, 0, "A", api.OK)
	wantHits(t, c, 1)
	wantRead(t, c, 1, "b", api.OK)
	wantHits(t, c, 1)
	wantWrite(t, c, 1, "B", api.OK)
	wantHits(t, c, 1)
	wantRead(t, c, 2, "c", api.OK)
	wantRead(t, c, 0, "A", api.OK)
	wantHits(t, c, 1)
	wantRead(t, c, 3, "", api.ErrRange)
	wantRead(t, c, -1, "", api.ErrRange)
	wantHits(t, c, 1)
	wantFlush(t, c, 9, api.OK)
	wantRead(t, c, 2, "c", api.OK)
	wantHits(t, c, 2)
	c.Crash()
	wantHits(t, c, 2)
	wantRead(t, c, 2, "c", api.OK)
	wantHits(t, c, 2)
	wantRead(t, c, 2, "c", api.OK)
	wantHits(t, c, 3)
	for i := range 1000 {
		wantRead(t, c, 2, "c", api.OK)
		wantHits(t, c, 4+i)
	}
}

// One more than room, in each room: the one goes that came first, if none was used again, and only then.
func TestOneMoreThanRoom(t *testing.T) {
	m := &maker{4}
	for room := 1; room <= mostRoom; room++ {
		for _, dirty := range []bool{false, true} {
			cells := m.cells(mostCells)
			c := wantNew(t, room, cells...)
			want := slices.Clone(cells)
			for i := range mostCells {
				var marked []int
				if dirty {
					b := m.any()
					wantWrite(t, c, i, b, api.OK)
					if i >= room {
						cells[i-room] = want[i-room]
					}
					want[i] = b
					marked = count(max(0, i+1-room), min(room, i+1))
				} else {
					wantRead(t, c, i, cells[i], api.OK)
				}
				wantHas(t, c, count(max(0, i+1-room), min(room, i+1))...)
				wantDirty(t, c, marked...)
				wantBelow(t, c, cells...)
			}
			for i := range mostCells - room {
				wantRead(t, c, i, want[i], api.OK)
			}
			wantHits(t, c, 0)
		}
	}
}

// Each of those that are there is used again, by a read or by a write: it is the newest then, and goes last.
func TestUsedAgain(t *testing.T) {
	m := &maker{5}
	for room := 1; room <= mostRoom; room++ {
		for again := range room {
			for _, write := range []bool{false, true} {
				x := newBoth(t, room, m.cells(mostCells)...)
				for i := range room {
					x.read(t, i)
				}
				if write {
					x.write(t, again, m.any())
				} else {
					x.read(t, again)
				}
				order := append(without(count(0, room), again), again)
				wantHas(t, x.c, order...)
				for i := range room {
					x.read(t, room+i)
					wantHas(t, x.c, append(slices.Clone(order[i+1:]), count(room, i+1)...)...)
				}
			}
		}
	}
}

// Who goes is told by use alone: one that is dirty is not spared, nor is one that is not, nor one that was flushed.
func TestDirtyOrNotTheOldestGoes(t *testing.T) {
	for first := range 3 {
		c := wantNew(t, 3, "a", "b", "c", "d", "e", "f")
		want := []string{"a", "b", "c", "d", "e", "f"}
		for i := range 3 {
			if i == first {
				wantWrite(t, c, i, "W", api.OK)
			} else {
				wantRead(t, c, i, want[i], api.OK)
			}
		}
		for i := range 3 {
			wantRead(t, c, 3+i, want[3+i], api.OK)
			wantHas(t, c, count(1+i, 3)...)
			if i >= first {
				want[first] = "W"
				wantDirty(t, c)
			} else {
				wantDirty(t, c, first)
			}
			wantBelow(t, c, want...)
		}
	}
	c := wantNew(t, 2, "a", "b", "c")
	wantWrite(t, c, 0, "A", api.OK)
	wantWrite(t, c, 1, "B", api.OK)
	wantFlush(t, c, 1, api.OK, 0)
	wantRead(t, c, 2, "c", api.OK)
	wantHas(t, c, 1, 2)
	wantDirty(t, c, 1)
	wantBelow(t, c, "A", "b", "c")
}

// What goes is written as it was written last, not as it became dirty.
func TestWhatGoesIsTheLastOne(t *testing.T) {
	c := wantNew(t, 1, "a", "b")
	for _, b := range []string{"1", "", "22", "1", "333"} {
		wantWrite(t, c, 0, b, api.OK)
		wantBelow(t, c, "a", "b")
	}
	wantWrite(t, c, 1, "B", api.OK)
	wantHas(t, c, 1)
	wantDirty(t, c, 1)
	wantBelow(t, c, "333", "b")
	wantRead(t, c, 0, "333", api.OK)
	wantHas(t, c, 0)
	wantDirty(t, c)
	wantBelow(t, c, "333", "B")
	wantHits(t, c, 0)
}

// A cell that was dirty, and is not there any more, is dirty no more, and is so again only by another write.
func TestGoneIsNotDirty(t *testing.T) {
	c := wantNew(t, 1, "a", "b")
	wantWrite(t, c, 0, "A", api.OK)
	wantRead(t, c, 1, "b", api.OK)
	wantDirty(t, c)
	wantRead(t, c, 0, "A", api.OK)
	wantDirty(t, c)
	wantFlush(t, c, 2, api.OK)
	wantWrite(t, c, 0, "C", api.OK)
	wantDirty(t, c, 0)
	c.Crash()
	wantRead(t, c, 0, "A", api.OK)
	wantDirty(t, c)
}

// One that is written again, or read, while it is dirty stays where it is among those dirty, though it is the newest.
func TestDirtyStaysWhereItIs(t *testing.T) {
	m := &maker{6}
	for many := 1; many <= mostRoom; many++ {
		for again := range many {
			x := newBoth(t, mostRoom, m.cells(many)...)
			order := count(0, many)
			slices.Reverse(order)
			for _, i := range order {
				x.write(t, i, m.any())
			}
			wantDirty(t, x.c, order...)
			for range 3 {
				x.write(t, again, m.any())
				wantDirty(t, x.c, order...)
				x.read(t, again)
				wantDirty(t, x.c, order...)
				wantHas(t, x.c, append(without(order, again), again)...)
			}
			x.flush(t, many)
			x.unwind(t)
		}
	}
}

// One that became dirty for a second time stands behind those that were so all the while, whether it was flushed or went.
func TestDirtyForASecondTime(t *testing.T) {
	c := wantNew(t, 3, "a", "b", "c", "d")
	for _, i := range []int{2, 0, 1} {
		wantWrite(t, c, i, "1", api.OK)
	}
	wantFlush(t, c, 1, api.OK, 2)
	wantDirty(t, c, 0, 1)
	wantWrite(t, c, 2, "2", api.OK)
	wantDirty(t, c, 0, 1, 2)
	wantHas(t, c, 0, 1, 2)
	wantWrite(t, c, 3, "3", api.OK)
	wantDirty(t, c, 1, 2, 3)
	wantWrite(t, c, 0, "4", api.OK)
	wantDirty(t, c, 2, 3, 0)
	wantHas(t, c, 2, 3, 0)
	wantBelow(t, c, "1", "1", "1", "d")
	wantFlush(t, c, 3, api.OK, 2, 3, 0)
	wantBelow(t, c, "4", "1", "2", "3")
}

// A flush of none, of some, of all, and of more than are dirty: the first ones that became dirty, as they became so.
func TestFlush(t *testing.T) {
	m := &maker{7}
	for many := range mostRoom + 1 {
		numbers := append(count(0, many+4), 40, 255, 256, 257, 1<<32, 1<<32+1, math.MaxInt32, math.MaxInt-1, math.MaxInt)
		for _, n := range numbers {
			cells := m.cells(mostCells)
			c := wantNew(t, mostRoom, cells...)
			var order []int
			written := make([]string, mostCells)
			for k := range many {
				i := (k*17 + 5) % mostCells
				order = append(order, i)
				written[i] = m.any()
				wantWrite(t, c, i, written[i], api.OK)
			}
			for k := range many / 2 {
				wantRead(t, c, order[2*k], written[order[2*k]], api.OK)
			}
			has, hits, first := c.Has(), c.Hits(), min(n, many)
			wantFlush(t, c, n, api.OK, order[:first]...)
			for _, i := range order[:first] {
				cells[i] = written[i]
			}
			wantBelow(t, c, cells...)
			wantDirty(t, c, order[first:]...)
			wantHas(t, c, has...)
			wantHits(t, c, hits)
			wantFlush(t, c, 0, api.OK)
			wantFlush(t, c, math.MaxInt, api.OK, order[first:]...)
			wantFlush(t, c, math.MaxInt, api.OK)
			wantHas(t, c, has...)
		}
	}
}

func TestFlushBelowNought(t *testing.T) {
	for _, n := range below {
		c := wantNew(t, 2, "a", "b")
		wantFlush(t, c, n, api.ErrRange)
		wantWrite(t, c, 1, "B", api.OK)
		wantWrite(t, c, 0, "A", api.OK)
		wantRead(t, c, 1, "B", api.OK)
		wantFlush(t, c, n, api.ErrRange)
		wantHas(t, c, 0, 1)
		wantDirty(t, c, 1, 0)
		wantBelow(t, c, "a", "b")
		wantHits(t, c, 1)
		wantFlush(t, wantNew(t, 1), n, api.ErrRange)
	}
}

// A flush is no use: those that were used longest ago stay so, and are there still.
func TestFlushIsNoUse(t *testing.T) {
	c := wantNew(t, 2, "a", "b", "c")
	wantWrite(t, c, 0, "A", api.OK)
	wantRead(t, c, 1, "b", api.OK)
	wantFlush(t, c, 1, api.OK, 0)
	wantHas(t, c, 0, 1)
	wantRead(t, c, 2, "c", api.OK)
	wantHas(t, c, 1, 2)
	wantRead(t, c, 0, "A", api.OK)
	wantHits(t, c, 0)
}

// A crash with dirty cells, in each room and as many as there may be: all is gone, and nothing of it is written.
func TestCrash(t *testing.T) {
	m := &maker{8}
	for room := 1; room <= mostRoom; room++ {
		for many := range room + 1 {
			for flushed := range many + 1 {
				cells := m.cells(mostCells)
				c := wantNew(t, room, cells...)
				written := m.cells(many)
				for i, b := range written {
					wantWrite(t, c, i, b, api.OK)
				}
				wantFlush(t, c, flushed, api.OK, count(0, flushed)...)
				copy(cells, written[:flushed])
				for range 2 {
					c.Crash()
					wantHas(t, c)
					wantDirty(t, c)
					wantBelow(t, c, cells...)
					wantFlush(t, c, 40, api.OK)
					wantBelow(t, c, cells...)
				}
				for i, b := range cells {
					wantRead(t, c, i, b, api.OK)
				}
				wantHits(t, c, 0)
				wantBelow(t, c, cells...)
			}
		}
	}
}

// After a crash it goes on as before, with all of its room, and what was dirty ahead of it has no place among those dirty.
func TestCrashGoesOn(t *testing.T) {
	c := wantNew(t, 2, "a", "b", "c")
	for range 3 {
		wantWrite(t, c, 0, "x", api.OK)
		wantWrite(t, c, 1, "x", api.OK)
		c.Crash()
		wantWrite(t, c, 1, "y", api.OK)
		wantWrite(t, c, 0, "y", api.OK)
		wantHas(t, c, 1, 0)
		wantDirty(t, c, 1, 0)
		wantBelow(t, c, "a", "b", "c")
		c.Crash()
	}
	wantWrite(t, c, 2, "C", api.OK)
	wantRead(t, c, 0, "a", api.OK)
	wantRead(t, c, 1, "b", api.OK)
	wantHas(t, c, 0, 1)
	wantBelow(t, c, "a", "b", "C")
	c.Crash()
	wantRead(t, c, 2, "C", api.OK)
}

// No cells at all: all is ErrRange, and a flush finds none.
func TestNoCellsAtAll(t *testing.T) {
	for room := 1; room <= mostRoom; room++ {
		c := wantNew(t, room)
		for _, i := range noCells(0) {
			wantRead(t, c, i, "", api.ErrRange)
			wantWrite(t, c, i, "", api.ErrRange)
			wantWrite(t, c, i, "a", api.ErrRange)
			wantWrite(t, c, i, long(17), api.ErrRange)
		}
		wantFlush(t, c, 0, api.OK)
		wantFlush(t, c, 7, api.OK)
		wantFlush(t, c, -1, api.ErrRange)
		c.Crash()
		wantHas(t, c)
		wantDirty(t, c)
		wantBelow(t, c)
		wantHits(t, c, 0)
	}
}

// A room for more than there are: none ever goes by itself.
func TestMoreRoomThanCells(t *testing.T) {
	m := &maker{9}
	for many := 1; many <= mostRoom; many++ {
		for room := many; room <= mostRoom; room++ {
			cells := m.cells(many)
			c := wantNew(t, room, cells...)
			for range 4 {
				for i := range many {
					wantWrite(t, c, i, m.any(), api.OK)
				}
			}
			wantHas(t, c, count(0, many)...)
			wantDirty(t, c, count(0, many)...)
			wantBelow(t, c, cells...)
		}
	}
}

// wrongCalls that may not be, each of them: none of them changes anything.
func (x both) wrongCalls(t *testing.T) {
	t.Helper()
	many := len(x.m.seen)
	for _, i := range noCells(many) {
		wantRead(t, x.c, i, "", api.ErrRange)
		wantWrite(t, x.c, i, "x", api.ErrRange)
		wantWrite(t, x.c, i, "", api.ErrRange)
		wantWrite(t, x.c, i, long(17), api.ErrRange)
	}
	for i := range many {
		for _, size := range longs {
			wantWrite(t, x.c, i, long(size), api.ErrRange)
		}
	}
	for _, n := range below {
		wantFlush(t, x.c, n, api.ErrRange)
	}
	x.same(t)
}

func TestWrongCalls(t *testing.T) {
	m := &maker{10}
	for many := range mostCells + 1 {
		for _, room := range []int{1, 2, 11, 12} {
			x := newBoth(t, room, m.cells(many)...)
			x.wrongCalls(t)
			for i := range min(many, room+1) {
				if i%2 == 0 {
					x.write(t, i, m.any())
				} else {
					x.read(t, i)
				}
			}
			x.wrongCalls(t)
			x.unwind(t)
		}
	}
}

// With an error nothing is changed: whatever is done later, it is answered as if the call had not been.
func TestNothingIsChangedWithAnError(t *testing.T) {
	m := &maker{11}
	for range 60 {
		x := newBoth(t, 1+m.below(mostRoom), m.cells(1+m.below(20))...)
		for range 30 {
			x.anyStep(t, m)
			// The model knows nothing of these.
			x.wrongCalls(t)
		}
		x.unwind(t)
	}
}

// What asks changes nothing, and is no use.
func TestWhatAsksIsNoUse(t *testing.T) {
	c := wantNew(t, 2, "a", "b", "c")
	wantWrite(t, c, 1, "B", api.OK)
	wantWrite(t, c, 0, "A", api.OK)
	wantWrite(t, c, 1, "BB", api.OK)
	for range 5 {
		wantHas(t, c, 0, 1)
		wantDirty(t, c, 1, 0)
		wantBelow(t, c, "a", "b", "c")
		wantHits(t, c, 0)
	}
	wantRead(t, c, 2, "c", api.OK)
	wantHas(t, c, 1, 2)
}

// All rows of a few calls on three cells, in each room up to one more than those.
func TestAllShortRows(t *testing.T) {
	const steps, kinds = 4, 10
	rows := 1
	for range steps {
		rows *= kinds
	}
	for room := 1; room <= 4; room++ {
		for row := range rows {
			x := newBoth(t, room, "a", "", "c")
			for step, left := 0, row; step < steps; step, left = step+1, left/kinds {
				x.shortStep(t, left%kinds, fmt.Sprint(step))
			}
			if t.Failed() {
				t.Fatalf("room %d, row %d", room, row)
			}
		}
	}
}

func (x both) shortStep(t *testing.T, kind int, b string) {
	t.Helper()
	switch {
	case kind < 3:
		x.read(t, kind)
	case kind < 6:
		x.write(t, kind-3, b)
	case kind < 9:
		x.flush(t, kind-5)
	default:
		x.crash(t)
	}
}

// Long rows of calls, right and wrong, answer as the model says, and leave what it says.
func TestManySteps(t *testing.T) {
	m := &maker{12}
	for round := range 600 {
		x := newBoth(t, 1+m.below(mostRoom), m.cells(round%(mostCells+1))...)
		for range 120 {
			x.anyStep(t, m)
		}
		x.unwind(t)
	}
}

func (x both) anyStep(t *testing.T, m *maker) {
	t.Helper()
	// Often a few cells only, so that what is used again is there still.
	many := max(len(x.m.seen), 1)
	i := m.below(many)
	if m.below(2) == 0 {
		i = m.below(min(many, x.m.room+2))
	}
	switch m.below(40) {
	case 0:
		x.crash(t)
	case 1, 2, 3:
		x.flush(t, m.below(6)-1)
	case 4:
		x.flush(t, math.MaxInt)
	case 5:
		wrong := noCells(len(x.m.seen))
		x.read(t, wrong[m.below(len(wrong))])
	case 6:
		wrong := noCells(len(x.m.seen))
		x.write(t, wrong[m.below(len(wrong))], m.any())
	case 7:
		x.write(t, i, long(longs[m.below(len(longs))]))
	default:
		if m.below(2) == 0 {
			x.read(t, i)
		} else {
			x.write(t, i, m.any())
		}
	}
}

// As if it were not there: without a crash whoever reads sees what was written last, in whatever room and whatever is flushed.
func TestAsIfItWereNotThere(t *testing.T) {
	m := &maker{13}
	for room := 1; room <= mostRoom; room++ {
		cells := m.cells(mostCells)
		c := wantNew(t, room, cells...)
		for range 2000 {
			i := m.below(mostCells)
			switch m.below(5) {
			case 0:
				if _, err := c.Flush(m.below(4)); err != nil {
					t.Errorf("Flush: error %v", err)
				}
			case 1, 2:
				cells[i] = m.any()
				wantWrite(t, c, i, cells[i], api.OK)
			default:
				wantRead(t, c, i, cells[i], api.OK)
			}
			if got := len(c.Has()); got > room {
				t.Fatalf("%d are there, in a room of %d", got, room)
			}
		}
		if _, err := c.Flush(room); err != nil {
			t.Errorf("Flush: error %v", err)
		}
		wantBelow(t, c, cells...)
	}
}

// Many uses: more than a few bytes can count.
func TestManyUses(t *testing.T) {
	c := wantNew(t, 2, "a", "b", "c")
	wantWrite(t, c, 1, "B", api.OK)
	for i := range 70_000 {
		b, err := c.Read(i % 2)
		if b != []string{"a", "B"}[i%2] || err != nil {
			t.Fatalf("Read: %q, error %v", b, err)
		}
		if has := c.Has(); !slices.Equal(has, []int{1 - i%2, i % 2}) {
			t.Fatalf("Has after %d uses: %v", i+2, has)
		}
	}
	wantHits(t, c, 69_999)
	wantWrite(t, c, 0, "A", api.OK)
	wantDirty(t, c, 1, 0)
	wantRead(t, c, 2, "c", api.OK)
	wantHas(t, c, 0, 2)
}

// Two caches have nothing in common.
func TestCachesAreApart(t *testing.T) {
	cells := []string{"a", "b"}
	first, second := wantNew(t, 2, cells...), wantNew(t, 1, cells...)
	wantWrite(t, first, 0, "c", api.OK)
	wantRead(t, first, 0, "c", api.OK)
	wantFlush(t, first, 1, api.OK, 0)
	wantWrite(t, first, 1, "d", api.OK)
	wantHas(t, second)
	wantDirty(t, second)
	wantBelow(t, second, "a", "b")
	wantHits(t, second, 0)
	wantRead(t, second, 0, "a", api.OK)
	second.Crash()
	wantHas(t, first, 0, 1)
	wantDirty(t, first, 1)
	wantBelow(t, first, "c", "b")
	wantHits(t, first, 1)
}

// Lists that come in stay as they are, also where they are refused, and so does what lies behind them, which is not read.
func TestWhatIsHandedInStays(t *testing.T) {
	m := &maker{14}
	lists := [][]string{m.cells(41), {"a", long(17)}}
	for many := range mostCells + 1 {
		lists = append(lists, m.cells(many))
	}
	for _, list := range lists {
		for _, room := range []int{1, 12, 13} {
			memory := append(slices.Clone(list), long(17), "behind")
			was := slices.Clone(memory)
			c, err := cache.New(memory[:len(list)], room)
			if err == nil {
				for i := range list {
					wantWrite(t, c, i, "new", api.OK)
				}
				wantFlush(t, c, min(1, len(list)), api.OK, count(max(0, len(list)-room), min(1, len(list)))...)
			}
			if !slices.Equal(memory, was) {
				t.Errorf("New of %d, room %d: the list became %q, was %q", len(list), room, memory, was)
			}
		}
	}
}

// Lists that came in are not kept: what is done with them later reaches nobody.
func TestListsThatCameInAreNotKept(t *testing.T) {
	cells := []string{"a", "b"}
	c := wantNew(t, 1, cells...)
	cells[0], cells[1] = "x", "y"
	wantBelow(t, c, "a", "b")
	wantRead(t, c, 0, "a", api.OK)
	cells[0], cells[1] = "z", "z"
	wantRead(t, c, 1, "b", api.OK)
	c.Crash()
	wantRead(t, c, 0, "a", api.OK)
}

// Nor is the memory of texts kept.
func TestTextsThatCameInAreNotKept(t *testing.T) {
	memory := []byte("abcdefgh")
	c := wantNew(t, 1, unsafe.String(&memory[0], 4), unsafe.String(&memory[4], 4))
	memory[0], memory[5] = 'X', 'Y'
	wantBelow(t, c, "abcd", "efgh")
	wantRead(t, c, 0, "abcd", api.OK)
	other := []byte("ijkl")
	wantWrite(t, c, 1, unsafe.String(&other[0], 4), api.OK)
	other[1] = 'Z'
	wantRead(t, c, 1, "ijkl", api.OK)
	wantFlush(t, c, 1, api.OK, 1)
	other[2] = 'Z'
	wantBelow(t, c, "abcd", "ijkl")
	wantRead(t, c, 0, "abcd", api.OK)
	wantRead(t, c, 1, "ijkl", api.OK)
}

// wantApart that texts, of which none is empty, share no memory.
func wantApart(t *testing.T, texts ...string) {
	t.Helper()
	for i := range texts {
		for j := range i {
			if unsafe.StringData(texts[i]) == unsafe.StringData(texts[j]) {
				t.Errorf("texts %d and %d share memory: %q, %q", j, i, texts[j], texts[i])
			}
		}
	}
}

// Texts that come out are fresh, from wherever they come.
func TestTextsThatComeOutAreFresh(t *testing.T) {
	c := wantNew(t, 2, "aaaa", "bbbb")
	var texts []string
	read := func(i int) {
		b, err := c.Read(i)
		wantTold(t, "Read", err, api.OK)
		texts = append(texts, b)
	}
	read(0)
	read(0)
	written := "cccc"
	wantWrite(t, c, 1, written, api.OK)
	texts = append(texts, written)
	read(1)
	texts = append(texts, c.Below()...)
	wantFlush(t, c, 1, api.OK, 1)
	read(1)
	texts = append(texts, c.Below()...)
	texts = append(texts, c.Below()...)
	c.Crash()
	read(0)
	read(1)
	wantApart(t, texts...)
}

// spoil a list, as far as its memory reaches.
func spoil[T any](list []T, by T) {
	list = list[:cap(list)]
	for i := range list {
		list[i] = by
	}
}

// Lists that come out are the caller's: they stay as they are, and what is done with them reaches nobody, nor any other list.
func TestListsThatComeOutAreFresh(t *testing.T) {
	filled := func() *cache.Cache {
		c := wantNew(t, 3, "a", "b", "c", "d")
		for _, i := range []int{3, 1, 2} {
			wantWrite(t, c, i, "x", api.OK)
		}
		return c
	}
	asIs := func(c *cache.Cache) {
		t.Helper()
		wantHas(t, c, 3, 1, 2)
		wantDirty(t, c, 1, 2)
		wantBelow(t, c, "a", "b", "c", "x")
	}
	c := filled()
	which, err := c.Flush(1)
	wantTold(t, "Flush", err, api.OK)
	has, dirty, cells := c.Has(), c.Dirty(), c.Below()
	spoil(c.Has(), 77)
	spoil(c.Dirty(), 77)
	spoil(c.Below(), "77")
	spoil(which, 77)
	asIs(c)
	wantRead(t, c, 0, "a", api.OK)
	wantFlush(t, c, 2, api.OK, 1, 2)
	c.Crash()
	if !slices.Equal(has, []int{3, 1, 2}) || !slices.Equal(dirty, []int{1, 2}) || !slices.Equal(cells, []string{"a", "b", "c", "x"}) {
		t.Errorf("what came out changed: %v, %v, %q", has, dirty, cells)
	}
	spoil(has, 77)
	if !slices.Equal(dirty, []int{1, 2}) {
		t.Errorf("lists share memory: %v", dirty)
	}
}

func TestNothingAndNilAreTheSame(t *testing.T) {
	for _, cells := range [][]string{nil, {}} {
		c, err := cache.New(cells, 1)
		wantTold(t, "New of none", err, api.OK)
		wantHas(t, c)
		wantDirty(t, c)
		wantBelow(t, c)
		wantFlush(t, c, 1, api.OK)
	}
}

// The same calls on another cache of the same cells are answered the same, whatever the order of a map is.
func TestSameAnswersAgain(t *testing.T) {
	played := func() (out []string) {
		m := &maker{15}
		c := wantNew(t, mostRoom, m.cells(20)...)
		for range 500 {
			var b string
			var which []int
			var err error
			switch m.below(12) {
			case 0:
				which, err = c.Flush(m.below(6) - 1)
			case 1:
				c.Crash()
			case 2, 3, 4, 5, 6:
				b, err = c.Read(m.below(21))
			default:
				err = c.Write(m.below(21), m.block(m.below(18)))
			}
			out = append(out, fmt.Sprint(b, which, plain.Told(err), c.Has(), c.Dirty(), c.Below(), c.Hits()))
		}
		return out
	}
	first := played()
	for range 5 {
		if !slices.Equal(first, played()) {
			t.Errorf("answers differ")
		}
	}
}

func TestErrorsAreTheNumbersOfThePromise(t *testing.T) {
	_, many := cache.New(make([]string, 41), 1)
	_, big := cache.New([]string{long(17)}, 1)
	_, narrow := cache.New(nil, 0)
	_, wide := cache.New(nil, 13)
	c := wantNew(t, 1, "a")
	_, noRead := c.Read(1)
	_, noFlush := c.Flush(-1)
	for k, err := range []error{many, big, narrow, wide, noRead, c.Write(1, ""), c.Write(0, long(17)), noFlush} {
		if want := []api.Errno{4, 1, 1, 1, 1, 1, 1, 1}[k]; plain.Told(err) != want {
			t.Errorf("told %d of error %d, want %d", plain.Told(err), k, want)
		}
	}
}
