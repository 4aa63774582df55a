package pool_test

import (
	"fmt"
	"math"
	"slices"
	"testing"

	"paritymill/api"
	"paritymill/plain"
	"paritymill/pool"
)

// below are numbers that are none of disks, of works and of spares.
var below = []int{-1, -2, -10, -11, -20, -256, math.MinInt32, -1 << 32, math.MinInt + 1, math.MinInt}

// above are so, too; some of them look like others where they are cut to a byte or four.
var above = []int{21, 255, 256, 257, 266, 65536, 65537, 1 << 32, 1<<32 + 1, 1<<32 + 10, math.MaxInt32, 1 << 62, math.MaxInt - 1, math.MaxInt}

var (
	noWorks  = slices.Concat([]int{0, 11, 12, 20}, below, above)
	noSpares = slices.Concat([]int{11, 12, 20}, below, above)
)

// noDisks are none of a pool of so many.
func noDisks(count int) []int {
	return slices.Concat([]int{count, count + 1, 20}, below, above)
}

// maker makes the same numbers in each run.
type maker struct{ state uint64 }

func (m *maker) below(n int) int {
	m.state = m.state*6364136223846793005 + 1442695040888963407
	return int(m.state>>33) % n
}

func (m *maker) of(l []int) int {
	return l[m.below(len(l))]
}

// isTold tells that an error is the one that is wanted, and nil where none is.
func isTold(err error, want api.Errno) bool {
	return plain.Told(err) == want && err == nil == (want == api.OK)
}

func wantNew(t *testing.T, wide, spares int) *pool.Pool {
	t.Helper()
	p, err := pool.New(wide, spares)
	if p == nil || err != nil {
		t.Fatalf("New of %d and %d: %v, error %v", wide, spares, p, err)
	}
	return p
}

func wantNoNew(t *testing.T, wide, spares int) {
	t.Helper()
	if p, err := pool.New(wide, spares); p != nil || !isTold(err, api.ErrRange) {
		t.Errorf("New of %d and %d: %v, error %v, want nil, ErrRange", wide, spares, p, err)
	}
}

func wantFail(t *testing.T, p *pool.Pool, d, want int, told api.Errno) {
	t.Helper()
	if got, err := p.Fail(d); got != want || !isTold(err, told) {
		t.Errorf("Fail of %d: %d, error %v, want %d, %v", d, got, err, want, told)
	}
}

func wantFill(t *testing.T, p *pool.Pool, d int, told api.Errno) {
	t.Helper()
	if err := p.Fill(d); !isTold(err, told) {
		t.Errorf("Fill of %d: error %v, want %v", d, err, told)
	}
}

func wantFresh(t *testing.T, p *pool.Pool, d, want int, told api.Errno) {
	t.Helper()
	if got, err := p.Fresh(d); got != want || !isTold(err, told) {
		t.Errorf("Fresh of %d: %d, error %v, want %d, %v", d, got, err, want, told)
	}
}

func wantStates(t *testing.T, p *pool.Pool, want ...int) {
	t.Helper()
	if got := p.States(); !slices.Equal(got, want) {
		t.Errorf("States: %v, want %v", got, want)
	}
}

func wantSlots(t *testing.T, p *pool.Pool, want ...int) {
	t.Helper()
	if got := p.Slots(); !slices.Equal(got, want) {
		t.Errorf("Slots: %v, want %v", got, want)
	}
}

// both does the same with a pool and its model, and holds one against the other.
type both struct {
	p *pool.Pool
	m *model
}

func newBoth(t *testing.T, wide, spares int) both {
	t.Helper()
	x := both{wantNew(t, wide, spares), newModel(wide, spares)}
	x.same(t)
	return x
}

// same holds all that can be asked against each other.
func (x both) same(t *testing.T) {
	t.Helper()
	wantStates(t, x.p, x.m.states()...)
	wantSlots(t, x.p, x.m.slots()...)
}

// step is one call: which of the three, and of which disk.
type step struct{ call, d int }

const (
	toFail  = 0
	toFill  = 1
	toFresh = 2
	calls   = 3
)

func (x both) do(t *testing.T, s step) {
	t.Helper()
	switch s.call {
	case toFail:
		want, told := x.m.fail(s.d)
		wantFail(t, x.p, s.d, want, told)
	case toFill:
		wantFill(t, x.p, s.d, x.m.fill(s.d))
	default:
		want, told := x.m.fresh(s.d)
		wantFresh(t, x.p, s.d, want, told)
	}
}

func TestBoundsAndStatesAreThoseOfTheChapter(t *testing.T) {
	got := []int{api.MaxDisks, api.MaxSpares, api.Works, api.Spare, api.Failed, api.Filling}
	if want := []int{mostDisks, mostSpares, works, spare, failed, filling}; !slices.Equal(got, want) {
		t.Errorf("bounds and states: %v, want %v", got, want)
	}
}

// Slots have disks 0 and so on, which work, and spares stand behind them: of all numbers that may be.
func TestNew(t *testing.T) {
	for wide := 1; wide <= mostDisks; wide++ {
		for spares := 0; spares <= mostSpares; spares++ {
			p := wantNew(t, wide, spares)
			var slots []int
			states := make([]int, wide+spares)
			for d := range states {
				if d < wide {
					slots = append(slots, d)
				} else {
					states[d] = spare
				}
			}
			wantStates(t, p, states...)
			wantSlots(t, p, slots...)
		}
	}
}

func TestNewOfTheLeastAndTheMost(t *testing.T) {
	p := wantNew(t, 1, 0)
	wantStates(t, p, 0)
	wantSlots(t, p, 0)
	p = wantNew(t, 10, 10)
	wantStates(t, p, 0, 0, 0, 0, 0, 0, 0, 0, 0, 0, 1, 1, 1, 1, 1, 1, 1, 1, 1, 1)
	wantSlots(t, p, 0, 1, 2, 3, 4, 5, 6, 7, 8, 9)
}

func TestNewOfNoSuchNumbers(t *testing.T) {
	for _, wide := range noWorks {
		for spares := 0; spares <= mostSpares; spares++ {
			wantNoNew(t, wide, spares)
		}
		for _, spares := range noSpares {
			wantNoNew(t, wide, spares)
		}
	}
	for _, spares := range noSpares {
		for wide := 1; wide <= mostDisks; wide++ {
			wantNoNew(t, wide, spares)
		}
	}
}

// Written out by hand: what the chapter says, one after another.
func TestByHand(t *testing.T) {
	p := wantNew(t, 3, 2)
	wantStates(t, p, 0, 0, 0, 1, 1)
	wantSlots(t, p, 0, 1, 2)
	wantFail(t, p, 1, 3, api.OK)
	wantStates(t, p, 0, 2, 0, 3, 1)
	wantSlots(t, p, 0, 3, 2)
	wantFill(t, p, 3, api.OK)
	wantStates(t, p, 0, 2, 0, 0, 1)
	wantSlots(t, p, 0, 3, 2)
	wantFill(t, p, 3, api.ErrState)
	wantFail(t, p, 1, 0, api.ErrState)
	wantFresh(t, p, 1, -1, api.OK)
	wantStates(t, p, 0, 1, 0, 0, 1)
	wantSlots(t, p, 0, 3, 2)
	wantFail(t, p, 3, 1, api.OK)
	wantStates(t, p, 0, 3, 0, 2, 1)
	wantSlots(t, p, 0, 1, 2)
	wantFail(t, p, 1, 4, api.OK)
	wantStates(t, p, 0, 2, 0, 2, 3)
	wantSlots(t, p, 0, 4, 2)
	wantFail(t, p, 2, -1, api.OK)
	wantStates(t, p, 0, 2, 2, 2, 3)
	wantSlots(t, p, 0, 4, -1)
	wantFail(t, p, 0, -1, api.OK)
	wantStates(t, p, 2, 2, 2, 2, 3)
	wantSlots(t, p, -1, 4, -1)
	wantFresh(t, p, 2, 0, api.OK)
	wantStates(t, p, 2, 2, 3, 2, 3)
	wantSlots(t, p, 2, 4, -1)
	wantFresh(t, p, 1, 2, api.OK)
	wantStates(t, p, 2, 3, 3, 2, 3)
	wantSlots(t, p, 2, 4, 1)
	wantFresh(t, p, 3, -1, api.OK)
	wantFresh(t, p, 0, -1, api.OK)
	wantStates(t, p, 1, 3, 3, 1, 3)
	wantSlots(t, p, 2, 4, 1)
	wantFill(t, p, 2, api.OK)
	wantFill(t, p, 0, api.ErrState)
	wantFail(t, p, 4, 0, api.OK)
	wantStates(t, p, 3, 3, 0, 1, 2)
	wantSlots(t, p, 2, 0, 1)
}

// In each slot, by as many spares as there may be: the first of them takes the place, and no other slot is touched.
func TestFailOfADiskThatWorks(t *testing.T) {
	for wide := 1; wide <= mostDisks; wide++ {
		for spares := 0; spares <= mostSpares; spares++ {
			for d := range wide {
				p := wantNew(t, wide, spares)
				states, slots := p.States(), p.Slots()
				states[d] = failed
				took := -1
				if spares > 0 {
					took = wide
					states[took] = filling
				}
				slots[d] = took
				wantFail(t, p, d, took, api.OK)
				wantStates(t, p, states...)
				wantSlots(t, p, slots...)
			}
		}
	}
}

// Spares take places in rising order, until there is none.
func TestSparesAreTakenInOrder(t *testing.T) {
	p := wantNew(t, 10, 4)
	for k, d := range []int{9, 0, 5, 3} {
		wantFail(t, p, d, 10+k, api.OK)
	}
	wantStates(t, p, 2, 0, 0, 2, 0, 2, 0, 0, 0, 2, 3, 3, 3, 3)
	wantSlots(t, p, 11, 1, 2, 13, 4, 12, 6, 7, 8, 10)
	wantFail(t, p, 4, -1, api.OK)
	wantFail(t, p, 8, -1, api.OK)
	wantStates(t, p, 2, 0, 0, 2, 2, 2, 0, 0, 2, 2, 3, 3, 3, 3)
	wantSlots(t, p, 11, 1, 2, 13, -1, 12, 6, 7, -1, 10)
}

// The Spare of the least number is taken, whichever failed ahead of it: of all sets of spares that fail.
func TestTheSpareOfTheLeastNumber(t *testing.T) {
	const wide, spares = 3, 6
	for set := range 1 << spares {
		for d := range wide {
			p := wantNew(t, wide, spares)
			states, slots := p.States(), p.Slots()
			least := -1
			// From the last one on, so that the order in which they failed is not that of their numbers.
			for k := spares - 1; k >= 0; k-- {
				if set>>k&1 == 1 {
					wantFail(t, p, wide+k, -1, api.OK)
					states[wide+k] = failed
				} else {
					least = wide + k
				}
			}
			wantSlots(t, p, slots...)
			wantFail(t, p, d, least, api.OK)
			states[d], slots[d] = failed, least
			if least != -1 {
				states[least] = filling
			}
			wantStates(t, p, states...)
			wantSlots(t, p, slots...)
		}
	}
}

// It is the number that counts, not how long it is a Spare: one that stood in a slot may be the least.
func TestAFreshSpareMayBeTheLeast(t *testing.T) {
	p := wantNew(t, 2, 3)
	wantFail(t, p, 1, 2, api.OK)
	wantFail(t, p, 3, -1, api.OK)
	wantFresh(t, p, 1, -1, api.OK)
	wantStates(t, p, 0, 1, 3, 2, 1)
	wantFail(t, p, 0, 1, api.OK)
	wantSlots(t, p, 1, 2)
	wantFresh(t, p, 3, -1, api.OK)
	wantFail(t, p, 2, 3, api.OK)
	wantStates(t, p, 2, 3, 2, 3, 1)
	wantSlots(t, p, 1, 3)
}

// A Spare that fails stands in no slot: nobody takes its place, though there are others, and it is taken no more.
func TestFailOfASpare(t *testing.T) {
	for d := 2; d < 5; d++ {
		p := wantNew(t, 2, 3)
		states := p.States()
		states[d] = failed
		wantFail(t, p, d, -1, api.OK)
		wantStates(t, p, states...)
		wantSlots(t, p, 0, 1)
		wantFail(t, p, d, 0, api.ErrState)
		wantFill(t, p, d, api.ErrState)
		wantStates(t, p, states...)
		wantSlots(t, p, 0, 1)
	}
}

// One that is Filling stands in its slot: the next Spare takes its place there, if there is one.
func TestFailOfOneThatIsFilling(t *testing.T) {
	p := wantNew(t, 2, 2)
	wantFail(t, p, 1, 2, api.OK)
	wantFail(t, p, 2, 3, api.OK)
	wantStates(t, p, 0, 2, 2, 3)
	wantSlots(t, p, 0, 3)
	wantFill(t, p, 2, api.ErrState)
	wantFail(t, p, 3, -1, api.OK)
	wantStates(t, p, 0, 2, 2, 2)
	wantSlots(t, p, 0, -1)
	wantFill(t, p, 3, api.ErrState)
	wantStates(t, p, 0, 2, 2, 2)
	wantSlots(t, p, 0, -1)
}

// So does one that was Filling, and Works.
func TestFailOfOneThatWasFilled(t *testing.T) {
	p := wantNew(t, 2, 2)
	wantFail(t, p, 0, 2, api.OK)
	wantFill(t, p, 2, api.OK)
	wantFail(t, p, 2, 3, api.OK)
	wantStates(t, p, 2, 0, 2, 3)
	wantSlots(t, p, 3, 1)
	wantFill(t, p, 3, api.OK)
	wantFail(t, p, 3, -1, api.OK)
	wantStates(t, p, 2, 0, 2, 2)
	wantSlots(t, p, -1, 1)
}

// One that has Failed fails no second time, be there spares or none: none is taken for it.
func TestFailOfOneThatHasFailed(t *testing.T) {
	for spares := 0; spares <= mostSpares; spares++ {
		p := wantNew(t, 3, spares)
		_, err := p.Fail(1)
		states, slots := p.States(), p.Slots()
		for range 3 {
			wantFail(t, p, 1, 0, api.ErrState)
		}
		if err != nil {
			t.Errorf("Fail: %v", err)
		}
		wantStates(t, p, states...)
		wantSlots(t, p, slots...)
	}
}

// All may fail, in whatever order, and no slot has a disk then.
func TestFailOfAll(t *testing.T) {
	for _, down := range []bool{false, true} {
		x := newBoth(t, mostDisks, mostSpares)
		for k := range mostDisks + mostSpares {
			d := k
			if down {
				d = mostDisks + mostSpares - 1 - k
			}
			x.do(t, step{toFail, d})
			x.same(t)
		}
		wantStates(t, x.p, slices.Repeat([]int{failed}, 20)...)
		wantSlots(t, x.p, slices.Repeat([]int{-1}, 10)...)
		for d := range mostDisks + mostSpares {
			wantFail(t, x.p, d, 0, api.ErrState)
			wantFill(t, x.p, d, api.ErrState)
		}
		for d := range mostDisks + mostSpares {
			slot := d
			if d >= mostDisks {
				slot = -1
			}
			wantFresh(t, x.p, 19-d, slot, api.OK)
		}
		wantStates(t, x.p, slices.Concat(slices.Repeat([]int{spare}, 10), slices.Repeat([]int{filling}, 10))...)
		wantSlots(t, x.p, 19, 18, 17, 16, 15, 14, 13, 12, 11, 10)
	}
}

// A Fill makes one that is Filling work, once, where it stands; of any other it is refused.
func TestFill(t *testing.T) {
	p := wantNew(t, 3, 3)
	wantFail(t, p, 0, 3, api.OK)
	wantFail(t, p, 2, 4, api.OK)
	wantStates(t, p, 2, 0, 2, 3, 3, 1)
	for _, d := range []int{0, 1, 2, 5} {
		wantFill(t, p, d, api.ErrState)
	}
	wantStates(t, p, 2, 0, 2, 3, 3, 1)
	wantFill(t, p, 4, api.OK)
	wantStates(t, p, 2, 0, 2, 3, 0, 1)
	wantSlots(t, p, 3, 1, 4)
	wantFill(t, p, 4, api.ErrState)
	wantFill(t, p, 3, api.OK)
	wantStates(t, p, 2, 0, 2, 0, 0, 1)
	wantSlots(t, p, 3, 1, 4)
	wantFill(t, p, 3, api.ErrState)
	wantStates(t, p, 2, 0, 2, 0, 0, 1)
}

// One that is Fresh in a slot has to be filled, though one of its number worked there.
func TestFillOfAFreshDisk(t *testing.T) {
	p := wantNew(t, 2, 0)
	wantFail(t, p, 0, -1, api.OK)
	wantFresh(t, p, 0, 0, api.OK)
	wantStates(t, p, 3, 0)
	wantSlots(t, p, 0, 1)
	wantFill(t, p, 0, api.OK)
	wantStates(t, p, 0, 0)
	wantFill(t, p, 0, api.ErrState)
	wantSlots(t, p, 0, 1)
}

// While no slot lacks a disk a Fresh one is a Spare, and its old slot is not its any more.
func TestFreshWhileNoSlotLacksADisk(t *testing.T) {
	for d := range 5 {
		p := wantNew(t, 3, 2)
		took, err := p.Fail(d)
		if err != nil {
			t.Errorf("Fail of %d: %v", d, err)
		}
		states, slots := p.States(), p.Slots()
		states[d] = spare
		wantFresh(t, p, d, -1, api.OK)
		wantStates(t, p, states...)
		wantSlots(t, p, slots...)
		if d < 3 && (took != 3 || slots[d] != 3) {
			t.Errorf("Fail of %d: %d took its place, want 3", d, took)
		}
		wantFresh(t, p, d, 0, api.ErrState)
		wantFill(t, p, d, api.ErrState)
		wantStates(t, p, states...)
		wantSlots(t, p, slots...)
	}
}

// While one slot lacks a disk any Fresh one takes it, be it the one that stood there, another, or one that was a Spare.
func TestFreshWhileOneSlotLacksADisk(t *testing.T) {
	for lacks := range 3 {
		for _, d := range []int{lacks, 3, 4} {
			p := wantNew(t, 3, 2)
			wantFail(t, p, 3, -1, api.OK)
			wantFail(t, p, 4, -1, api.OK)
			wantFail(t, p, lacks, -1, api.OK)
			states, slots := p.States(), p.Slots()
			if slots[lacks] != -1 {
				t.Errorf("slot %d has %d, want -1", lacks, slots[lacks])
			}
			states[d], slots[lacks] = filling, d
			wantFresh(t, p, d, lacks, api.OK)
			wantStates(t, p, states...)
			wantSlots(t, p, slots...)
			wantFresh(t, p, d, 0, api.ErrState)
			wantSlots(t, p, slots...)
			for _, next := range []int{lacks, 3, 4} {
				if next != d {
					states[next] = spare
					wantFresh(t, p, next, -1, api.OK)
				}
			}
			wantStates(t, p, states...)
			wantSlots(t, p, slots...)
		}
	}
}

// While several do the first of them is taken, whichever came to lack one first: of all sets of slots, by any of the disks.
func TestFreshWhileSeveralSlotsLackADisk(t *testing.T) {
	const wide = 5
	for set := 1; set < 1<<wide; set++ {
		for d := range wide {
			if set>>d&1 == 0 {
				continue
			}
			p := wantNew(t, wide, 0)
			states, slots := p.States(), p.Slots()
			first := -1
			for k := wide - 1; k >= 0; k-- {
				if set>>k&1 == 1 {
					wantFail(t, p, k, -1, api.OK)
					states[k], slots[k], first = failed, -1, k
				}
			}
			wantStates(t, p, states...)
			wantSlots(t, p, slots...)
			states[d], slots[first] = filling, d
			wantFresh(t, p, d, first, api.OK)
			wantStates(t, p, states...)
			wantSlots(t, p, slots...)
		}
	}
}

// A Fresh of one that Works, is a Spare, or is Filling is refused, though a slot lacks a disk.
func TestFreshOfOneThatHasNotFailed(t *testing.T) {
	p := wantNew(t, 3, 1)
	for d := range 4 {
		wantFresh(t, p, d, 0, api.ErrState)
	}
	wantStates(t, p, 0, 0, 0, 1)
	wantSlots(t, p, 0, 1, 2)
	wantFail(t, p, 0, 3, api.OK)
	wantFail(t, p, 1, -1, api.OK)
	wantFresh(t, p, 3, 0, api.ErrState)
	wantFresh(t, p, 2, 0, api.ErrState)
	wantStates(t, p, 2, 2, 0, 3)
	wantSlots(t, p, 3, -1, 2)
	wantFill(t, p, 3, api.OK)
	wantFresh(t, p, 3, 0, api.ErrState)
	wantStates(t, p, 2, 2, 0, 0)
	wantSlots(t, p, 3, -1, 2)
}

// wantNoDisk tells that each call with a number that is no disk is ErrRange.
func wantNoDisk(t *testing.T, p *pool.Pool, d int) {
	t.Helper()
	wantFail(t, p, d, 0, api.ErrRange)
	wantFill(t, p, d, api.ErrRange)
	wantFresh(t, p, d, 0, api.ErrRange)
}

// Of each pool disk 0 and the last one are there, and one less and one more are not; nor is -1 while a slot has none.
func TestTheFirstAndTheLastDisk(t *testing.T) {
	for wide := 1; wide <= mostDisks; wide++ {
		for spares := 0; spares <= mostSpares; spares++ {
			last := wide + spares - 1
			for _, d := range []int{0, last} {
				x := newBoth(t, wide, spares)
				for _, call := range []int{toFill, toFresh, toFail, toFail, toFill, toFresh, toFresh, toFill, toFail} {
					x.do(t, step{call, d})
					x.same(t)
					wantNoDisk(t, x.p, -1)
					wantNoDisk(t, x.p, last+1)
					x.same(t)
				}
			}
		}
	}
}

func TestNoSuchDisk(t *testing.T) {
	for _, shape := range [][2]int{{1, 0}, {1, 10}, {3, 2}, {10, 0}, {10, 10}} {
		x := newBoth(t, shape[0], shape[1])
		count := shape[0] + shape[1]
		for d := range count {
			for _, no := range noDisks(count) {
				wantNoDisk(t, x.p, no)
			}
			x.same(t)
			x.do(t, step{toFail, d})
		}
		for _, no := range noDisks(count) {
			wantNoDisk(t, x.p, no)
		}
		x.same(t)
	}
}

// ErrRange is told of what is no disk, whatever all disks are; ErrState of none but a disk.
func TestWhichErrorIsTold(t *testing.T) {
	p := wantNew(t, 2, 1)
	wantNoDisk(t, p, 3)
	wantFill(t, p, 2, api.ErrState)
	wantFresh(t, p, 2, 0, api.ErrState)
	for _, d := range []int{2, 1, 0} {
		wantFail(t, p, d, -1, api.OK)
	}
	wantNoDisk(t, p, 3)
	wantNoDisk(t, p, -1)
	wantFail(t, p, 2, 0, api.ErrState)
	wantStates(t, p, 2, 2, 2)
	wantSlots(t, p, -1, -1)
	// Both of New are out of their bounds, and one of them.
	wantNoNew(t, 0, 11)
	wantNoNew(t, 11, -1)
	wantNoNew(t, 10, 11)
	wantNoNew(t, 0, 10)
}

func TestErrorsAreTheNumbersOfThePromise(t *testing.T) {
	p := wantNew(t, 2, 1)
	_, noPool := pool.New(0, 0)
	_, noDisk := p.Fail(3)
	_, noFresh := p.Fresh(-1)
	_, worksStill := p.Fresh(0)
	wantFail(t, p, 0, 2, api.OK)
	_, again := p.Fail(0)
	told := []error{noPool, noDisk, noFresh, worksStill, again, p.Fill(3), p.Fill(0)}
	for k, want := range []api.Errno{1, 1, 1, 6, 6, 1, 6} {
		if plain.Told(told[k]) != want {
			t.Errorf("told %d of error %d, want %d", plain.Told(told[k]), k, want)
		}
	}
}

// played makes a pool with its model anew, by steps.
func played(t *testing.T, wide, spares int, steps []step) both {
	t.Helper()
	x := both{wantNew(t, wide, spares), newModel(wide, spares)}
	for _, s := range steps {
		x.do(t, s)
	}
	return x
}

// eachState calls with the steps to each state that a pool can have, on the shortest way.
func eachState(t *testing.T, wide, spares int, do func(steps []step)) int {
	t.Helper()
	seen := map[string]bool{newModel(wide, spares).text(): true}
	ways := [][]step{nil}
	for at := 0; at < len(ways); at++ {
		do(ways[at])
		for call := range calls {
			for d := range wide + spares {
				steps := append(slices.Clone(ways[at]), step{call, d})
				if text := played(t, wide, spares, steps).m.text(); !seen[text] {
					seen[text] = true
					ways = append(ways, steps)
				}
			}
		}
	}
	return len(ways)
}

// statesOf counts them another way: some slots have disks, each of which Works or is Filling, and the others are Spare or Failed, but all Failed if a slot has none.
func statesOf(wide, spares int) int {
	all, picks := 0, 1
	for placed := 0; placed <= wide; placed++ {
		if placed < wide {
			all += picks << placed
		} else {
			all += picks << (wide + spares)
		}
		// Of so many slots one more, and of so many disks another one.
		picks = picks * (wide - placed) / (placed + 1) * (wide + spares - placed)
	}
	return all
}

// From each state of small pools each call, right and wrong, answers and leaves what the model says.
func TestEachCallInEachState(t *testing.T) {
	for _, shape := range [][2]int{{1, 0}, {1, 1}, {1, 2}, {1, 3}, {2, 0}, {2, 1}, {2, 2}, {3, 0}, {3, 1}} {
		wide, spares := shape[0], shape[1]
		count := eachState(t, wide, spares, func(steps []step) {
			for call := range calls {
				for d := -1; d <= wide+spares; d++ {
					x := played(t, wide, spares, steps)
					x.same(t)
					x.do(t, step{call, d})
					x.same(t)
				}
			}
		})
		if want := statesOf(wide, spares); count != want {
			t.Errorf("states of %d and %d: %d, want %d", wide, spares, count, want)
		}
	}
}

// Each slot has its disk: no disk stands in two, who stands in one Works or is Filling, and no Spare is left while a slot has none.
func (x both) isSound(t *testing.T) {
	t.Helper()
	states, slots := x.p.States(), x.p.Slots()
	stands := make([]int, len(states))
	lacks := false
	for _, d := range slots {
		if d == -1 {
			lacks = true
		} else {
			stands[d]++
		}
	}
	for d, state := range states {
		inSlot := state == works || state == filling
		if stands[d] > 1 || inSlot != (stands[d] == 1) || state == spare && lacks {
			t.Errorf("disk %d: state %d, in %d slots: %v, %v", d, state, stands[d], states, slots)
		}
	}
}

// anyStep is mostly right, so that much is changed.
func (x both) anyStep(m *maker) step {
	s := step{m.below(calls), m.below(len(x.m.list)+2) - 1}
	if m.below(3) == 0 {
		return s
	}
	var fit []int
	for d, state := range x.m.states() {
		switch {
		case s.call == toFail && state != failed, s.call == toFill && state == filling, s.call == toFresh && state == failed:
			fit = append(fit, d)
		}
	}
	if len(fit) > 0 {
		s.d = m.of(fit)
	}
	return s
}

// Long rows of calls on pools of all sizes answer as the model says, and leave what it says.
func TestManySteps(t *testing.T) {
	m := &maker{1}
	for wide := 1; wide <= mostDisks; wide++ {
		for spares := 0; spares <= mostSpares; spares++ {
			x := newBoth(t, wide, spares)
			for range 600 {
				x.do(t, x.anyStep(m))
				x.same(t)
				x.isSound(t)
			}
		}
	}
}

// wrongCalls are all refused, as the model has it.
func (x both) wrongCalls(t *testing.T, m *maker) {
	t.Helper()
	wantNoDisk(t, x.p, m.of(below))
	wantNoDisk(t, x.p, m.of(above))
	wantNoDisk(t, x.p, len(x.m.list))
	for d, state := range x.m.states() {
		if state == failed {
			wantFail(t, x.p, d, 0, api.ErrState)
		} else {
			wantFresh(t, x.p, d, 0, api.ErrState)
		}
		if state != filling {
			wantFill(t, x.p, d, api.ErrState)
		}
	}
}

// With an error nothing is changed: a pool that was asked wrongly goes on as its model, which was not.
func TestNothingIsChangedWithAnError(t *testing.T) {
	m := &maker{2}
	for range 100 {
		x := newBoth(t, 1+m.below(mostDisks), m.below(mostSpares+1))
		for range 60 {
			x.do(t, x.anyStep(m))
			x.wrongCalls(t, m)
			x.same(t)
		}
	}
}

// To ask changes nothing.
func TestWhatAsksChangesNothing(t *testing.T) {
	m := &maker{3}
	for range 50 {
		x := newBoth(t, 1+m.below(mostDisks), m.below(mostSpares+1))
		for range 60 {
			x.do(t, x.anyStep(m))
			for range 3 {
				x.same(t)
			}
		}
	}
}

// Two pools have nothing in common.
func TestPoolsAreApart(t *testing.T) {
	a, b := wantNew(t, 2, 1), wantNew(t, 2, 1)
	wantFail(t, a, 0, 2, api.OK)
	wantStates(t, b, 0, 0, 1)
	wantSlots(t, b, 0, 1)
	wantFill(t, b, 2, api.ErrState)
	wantFresh(t, b, 0, 0, api.ErrState)
	wantFail(t, b, 2, -1, api.OK)
	wantFail(t, b, 1, -1, api.OK)
	wantStates(t, a, 2, 0, 3)
	wantSlots(t, a, 2, 1)
	wantStates(t, b, 0, 2, 2)
	wantSlots(t, b, 0, -1)
}

// spoil all that a list has, also behind its length.
func spoil(l []int) {
	l = l[:cap(l)]
	for at := range l {
		l[at] = 99
	}
}

// Lists that come out are the caller's: they stay as they are, and what is done with them reaches nobody.
func TestListsThatComeOutAreFresh(t *testing.T) {
	p := wantNew(t, 3, 2)
	oldStates, oldSlots := p.States(), p.Slots()
	for range 3 {
		spoil(p.States())
		spoil(p.Slots())
		wantStates(t, p, 0, 0, 0, 1, 1)
		wantSlots(t, p, 0, 1, 2)
	}
	wantFail(t, p, 0, 3, api.OK)
	wantFail(t, p, 1, 4, api.OK)
	wantFail(t, p, 2, -1, api.OK)
	if !slices.Equal(oldStates, []int{0, 0, 0, 1, 1}) || !slices.Equal(oldSlots, []int{0, 1, 2}) {
		t.Errorf("what came out changed: %v, %v", oldStates, oldSlots)
	}
	// Answers that grow behind their length do not reach each other.
	first, second := append(p.States(), 8), append(p.States(), 9)
	third, fourth := append(p.Slots(), 8), append(p.Slots(), 9)
	first[0], third[0] = 7, 7
	if first[5] != 8 || second[5] != 9 || second[0] != 2 || third[3] != 8 || fourth[3] != 9 || fourth[0] != 3 {
		t.Errorf("answers share memory: %v, %v, %v, %v", first, second, third, fourth)
	}
	wantStates(t, p, 2, 2, 2, 3, 3)
	wantSlots(t, p, 3, 4, -1)
}

// The same calls on another pool are answered the same.
func TestSameAnswersAgain(t *testing.T) {
	answers := func() (out []string) {
		m := &maker{4}
		p := wantNew(t, 4, 3)
		for range 500 {
			d := m.below(9) - 1
			switch m.below(calls) {
			case toFail:
				n, err := p.Fail(d)
				out = append(out, fmt.Sprint(n, plain.Told(err)))
			case toFill:
				out = append(out, fmt.Sprint(plain.Told(p.Fill(d))))
			default:
				n, err := p.Fresh(d)
				out = append(out, fmt.Sprint(n, plain.Told(err)))
			}
			out = append(out, fmt.Sprint(p.States(), p.Slots()))
		}
		return out
	}
	if first, second := answers(), answers(); !slices.Equal(first, second) {
		t.Errorf("answers differ: %v, %v", first, second)
	}
}
