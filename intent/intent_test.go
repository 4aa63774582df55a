package intent_test

import (
	"fmt"
	"math"
	"slices"
	"testing"

	"paritymill/api"
	"paritymill/intent"
	"paritymill/plain"
)

// The bound is written out, so that it shares no number with the program.
const cells = 40

// noCells are numbers of which there is no cell.
var noCells = []int{-1, -2, -39, -40, -41, -256, math.MinInt32, math.MinInt + 1, math.MinInt, 40, 41, 79, 80, 255, 256, 1 << 32, 1<<32 + 1, math.MaxInt32, math.MaxInt - 1, math.MaxInt}

// noWides are numbers that no region has as many cells as.
var noWides = []int{0, -1, -2, -40, -41, -256, math.MinInt32, math.MinInt + 1, math.MinInt, 41, 42, 80, 255, 256, 1<<32 + 1, math.MaxInt32, math.MaxInt - 1, math.MaxInt}

// noRegions are numbers of which there is no region, if there are count of them.
func noRegions(count int) []int {
	return append([]int{count, count + 1, count + 40}, noCells...)
}

// maker makes the same numbers in each run.
type maker struct{ state uint64 }

func (m *maker) below(n int) int {
	m.state = m.state*6364136223846793005 + 1442695040888963407
	return int(m.state>>33) % n
}

func wantTold(t *testing.T, what string, err error, want api.Errno) {
	t.Helper()
	if plain.Told(err) != want || err == nil != (want == api.OK) {
		t.Errorf("%s: error %v, want %v", what, err, want)
	}
}

func wantNew(t *testing.T, wide int) *intent.Intent {
	t.Helper()
	i, err := intent.New(wide)
	if err != nil || i == nil {
		t.Fatalf("New of %d: %v, error %v", wide, i, err)
	}
	return i
}

func wantBegin(t *testing.T, i *intent.Intent, cell int, want bool, told api.Errno) {
	t.Helper()
	got, err := i.Begin(cell)
	wantTold(t, fmt.Sprintf("Begin of %d", cell), err, told)
	if got != want {
		t.Errorf("Begin of %d: %v, want %v", cell, got, want)
	}
}

func wantEnd(t *testing.T, i *intent.Intent, cell int, told api.Errno) {
	t.Helper()
	wantTold(t, fmt.Sprintf("End of %d", cell), i.End(cell), told)
}

func wantClean(t *testing.T, i *intent.Intent, region int, want bool, told api.Errno) {
	t.Helper()
	got, err := i.Clean(region)
	wantTold(t, fmt.Sprintf("Clean of %d", region), err, told)
	if got != want {
		t.Errorf("Clean of %d: %v, want %v", region, got, want)
	}
}

func wantCrash(t *testing.T, i *intent.Intent, want ...int) {
	t.Helper()
	if got := i.Crash(); !slices.Equal(got, want) {
		t.Errorf("Crash: %v, want %v", got, want)
	}
}

func wantDirty(t *testing.T, i *intent.Intent, want ...int) {
	t.Helper()
	if got := i.Dirty(); !slices.Equal(got, want) {
		t.Errorf("Dirty: %v, want %v", got, want)
	}
}

// both does the same with an intent and its model, and holds one against the other.
type both struct {
	i *intent.Intent
	m *model
}

func newBoth(t *testing.T, wide int) both {
	t.Helper()
	x := both{wantNew(t, wide), modelOf(wide)}
	wantDirty(t, x.i)
	return x
}

func (x both) begin(t *testing.T, cell int) {
	t.Helper()
	want, told := x.m.begin(cell)
	wantBegin(t, x.i, cell, want, told)
	wantDirty(t, x.i, x.m.dirty()...)
}

func (x both) end(t *testing.T, cell int) {
	t.Helper()
	wantEnd(t, x.i, cell, x.m.end(cell))
	wantDirty(t, x.i, x.m.dirty()...)
}

func (x both) clean(t *testing.T, region int) {
	t.Helper()
	want, told := x.m.clean(region)
	wantClean(t, x.i, region, want, told)
	wantDirty(t, x.i, x.m.dirty()...)
}

func (x both) crash(t *testing.T) {
	t.Helper()
	wantCrash(t, x.i, x.m.crash()...)
	wantDirty(t, x.i, x.m.dirty()...)
}

// unwind ends all that can be ended and cleans all that can be cleaned, so that all that is kept of both is held against each other.
func (x both) unwind(t *testing.T) {
	t.Helper()
	for cell := range cells {
		for range 1 + countOf(x.m.begun, cell) {
			for region := range x.m.regions {
				x.clean(t, region)
			}
			x.end(t, cell)
		}
	}
	for region := range x.m.regions {
		x.clean(t, region)
	}
	wantDirty(t, x.i)
}

func countOf(l []int, n int) (count int) {
	for _, x := range l {
		if x == n {
			count++
		}
	}
	return count
}

func TestBoundIsThatOfTheChapter(t *testing.T) {
	if api.MaxCells != cells {
		t.Errorf("MaxCells: %d, want %d", api.MaxCells, cells)
	}
}

func TestNew(t *testing.T) {
	for wide := 1; wide <= cells; wide++ {
		i := wantNew(t, wide)
		wantDirty(t, i)
		wantCrash(t, i)
		for cell := range cells {
			wantEnd(t, i, cell, api.ErrState)
		}
		for region := range len(modelOf(wide).regions) {
			wantClean(t, i, region, false, api.OK)
		}
		wantDirty(t, i)
	}
}

func TestNewOfNoSuchWidth(t *testing.T) {
	for _, wide := range noWides {
		i, err := intent.New(wide)
		wantTold(t, fmt.Sprintf("New of %d", wide), err, api.ErrRange)
		if i != nil {
			t.Errorf("New of %d: an intent comes with the error", wide)
		}
	}
}

// Written out by hand: what the chapter says, one after another.
func TestPlain(t *testing.T) {
	i := wantNew(t, 10)
	wantBegin(t, i, 30, true, api.OK)
	wantBegin(t, i, 6, true, api.OK)
	wantDirty(t, i, 0, 3)
	wantBegin(t, i, 39, false, api.OK)
	wantClean(t, i, 0, false, api.OK)
	wantEnd(t, i, 6, api.OK)
	wantDirty(t, i, 0, 3)
	wantClean(t, i, 0, true, api.OK)
	wantDirty(t, i, 3)
	wantClean(t, i, 0, false, api.OK)
	wantEnd(t, i, 30, api.OK)
	wantClean(t, i, 3, false, api.OK)
	wantDirty(t, i, 3)
	wantCrash(t, i, 3)
	wantDirty(t, i, 3)
	wantEnd(t, i, 39, api.ErrState)
	wantBegin(t, i, 38, false, api.OK)
	wantEnd(t, i, 38, api.OK)
	wantClean(t, i, 3, true, api.OK)
	wantDirty(t, i)
	wantBegin(t, i, 38, true, api.OK)
}

// Each cell makes its own region dirty, and no other one.
func TestRegionOfEachCell(t *testing.T) {
	for wide := 1; wide <= cells; wide++ {
		for region, its := range modelOf(wide).regions {
			for _, cell := range its {
				i := wantNew(t, wide)
				wantBegin(t, i, cell, true, api.OK)
				wantDirty(t, i, region)
				wantEnd(t, i, cell, api.OK)
				wantDirty(t, i, region)
				wantClean(t, i, region, true, api.OK)
				wantDirty(t, i)
			}
		}
	}
}

// Only the first Begin of a region finds it not dirty, be the cells the same or others, being written or not.
func TestBeginTellsTheFirst(t *testing.T) {
	for wide := 1; wide <= cells; wide++ {
		x := newBoth(t, wide)
		for region, its := range x.m.regions {
			for k, cell := range its {
				wantBegin(t, x.i, cell, k == 0, api.OK)
				wantBegin(t, x.i, cell, false, api.OK)
				if k%2 == 0 {
					wantEnd(t, x.i, cell, api.OK)
					wantEnd(t, x.i, cell, api.OK)
					wantBegin(t, x.i, cell, false, api.OK)
				}
			}
			if got := x.i.Dirty(); len(got) != region+1 || got[region] != region {
				t.Errorf("Dirty of width %d after region %d: %v", wide, region, got)
			}
		}
	}
}

// The last region is one, though perhaps of fewer, and behind it there is none.
func TestLastRegion(t *testing.T) {
	for _, c := range []struct{ wide, last, first int }{
		{1, 39, 39}, {2, 19, 38}, {3, 13, 39}, {6, 6, 36}, {7, 5, 35}, {9, 4, 36}, {10, 3, 30}, {11, 3, 33}, {13, 3, 39}, {14, 2, 28},
		{19, 2, 38}, {20, 1, 20}, {21, 1, 21}, {39, 1, 39}, {40, 0, 0},
	} {
		i := wantNew(t, c.wide)
		wantClean(t, i, c.last, false, api.OK)
		wantClean(t, i, c.last+1, false, api.ErrRange)
		wantBegin(t, i, c.first, true, api.OK)
		wantBegin(t, i, cells-1, false, api.OK)
		wantDirty(t, i, c.last)
		if c.first > 0 {
			wantBegin(t, i, c.first-1, true, api.OK)
			wantDirty(t, i, c.last-1, c.last)
			wantEnd(t, i, c.first-1, api.OK)
			wantClean(t, i, c.last-1, true, api.OK)
		}
		wantEnd(t, i, c.first, api.OK)
		wantClean(t, i, c.last, false, api.OK)
		wantEnd(t, i, cells-1, api.OK)
		wantClean(t, i, c.last, true, api.OK)
		wantClean(t, i, c.last+1, false, api.ErrRange)
		wantDirty(t, i)
	}
}

// Behind the last cell there is none, even where the last region would have room for it.
func TestNoSuchCell(t *testing.T) {
	for wide := 1; wide <= cells; wide++ {
		for _, full := range []bool{false, true} {
			x := newBoth(t, wide)
			if full {
				for cell := range cells {
					x.begin(t, cell)
				}
			}
			was := x.i.Dirty()
			for _, cell := range noCells {
				wantBegin(t, x.i, cell, false, api.ErrRange)
				wantEnd(t, x.i, cell, api.ErrRange)
				wantDirty(t, x.i, was...)
			}
			x.unwind(t)
		}
	}
}

func TestNoSuchRegion(t *testing.T) {
	for wide := 1; wide <= cells; wide++ {
		for _, over := range []bool{false, true} {
			x := newBoth(t, wide)
			for cell := range cells {
				x.begin(t, cell)
				if over {
					x.end(t, cell)
				}
			}
			was := x.i.Dirty()
			for _, region := range noRegions(len(x.m.regions)) {
				wantClean(t, x.i, region, false, api.ErrRange)
				wantDirty(t, x.i, was...)
			}
			x.unwind(t)
		}
	}
}

// A cell that was begun more than once is being written until as many Ends of it were there.
func TestBegunMoreThanOnce(t *testing.T) {
	for wide := 1; wide <= cells; wide++ {
		for _, cell := range []int{0, 1, 20, 38, 39} {
			for _, often := range []int{1, 2, 3, 255, 256, 257, 300} {
				x := newBoth(t, wide)
				home := x.m.home(cell)
				for k := range often {
					wantBegin(t, x.i, cell, k == 0, api.OK)
				}
				for range often {
					wantClean(t, x.i, home, false, api.OK)
					wantDirty(t, x.i, home)
					wantEnd(t, x.i, cell, api.OK)
				}
				wantEnd(t, x.i, cell, api.ErrState)
				wantDirty(t, x.i, home)
				wantClean(t, x.i, home, true, api.OK)
				wantEnd(t, x.i, cell, api.ErrState)
				wantDirty(t, x.i)
			}
		}
	}
}

// An End of one cell is none of another, not even of its own region.
func TestEndOfAnotherCell(t *testing.T) {
	for _, wide := range []int{1, 2, 7, 20, 39, 40} {
		for cell := range cells {
			i := wantNew(t, wide)
			wantBegin(t, i, cell, true, api.OK)
			for other := range cells {
				if other != cell {
					wantEnd(t, i, other, api.ErrState)
				}
			}
			wantClean(t, i, cell/wide, false, api.OK)
			wantDirty(t, i, cell/wide)
			wantEnd(t, i, cell, api.OK)
			wantEnd(t, i, cell, api.ErrState)
			wantClean(t, i, cell/wide, true, api.OK)
		}
	}
}

// While any one of its cells is being written a region stays dirty, and what is written elsewhere does not matter.
func TestCleanWhileWritten(t *testing.T) {
	for wide := 1; wide <= cells; wide++ {
		for cell := range cells {
			x := newBoth(t, wide)
			for other := range cells {
				wantBegin(t, x.i, other, x.m.home(other)*wide == other, api.OK)
				if other != cell {
					wantEnd(t, x.i, other, api.OK)
				}
			}
			home := x.m.home(cell)
			for region := range x.m.regions {
				wantClean(t, x.i, region, region != home, api.OK)
				wantClean(t, x.i, region, false, api.OK)
			}
			wantDirty(t, x.i, home)
			wantEnd(t, x.i, cell, api.OK)
			wantDirty(t, x.i, home)
			wantClean(t, x.i, home, true, api.OK)
			wantDirty(t, x.i)
		}
	}
}

// A Clean that was not done is not done later by itself.
func TestCleanIsNotKept(t *testing.T) {
	i := wantNew(t, 8)
	wantBegin(t, i, 9, true, api.OK)
	wantClean(t, i, 1, false, api.OK)
	wantEnd(t, i, 9, api.OK)
	wantDirty(t, i, 1)
	wantBegin(t, i, 10, false, api.OK)
	wantClean(t, i, 1, false, api.OK)
	wantCrash(t, i, 1)
	wantDirty(t, i, 1)
	wantClean(t, i, 1, true, api.OK)
	wantDirty(t, i)
}

// A crash ends all that is being written, however often it was begun, and leaves dirty what was.
func TestCrash(t *testing.T) {
	for wide := 1; wide <= cells; wide++ {
		x := newBoth(t, wide)
		for cell := range cells {
			for range 1 + cell%3 {
				x.begin(t, cell)
			}
		}
		all := x.i.Dirty()
		if len(all) != len(x.m.regions) {
			t.Errorf("Dirty of width %d: %v", wide, all)
		}
		wantCrash(t, x.i, all...)
		wantCrash(t, x.i, all...)
		wantDirty(t, x.i, all...)
		for cell := range cells {
			wantEnd(t, x.i, cell, api.ErrState)
			wantBegin(t, x.i, cell, false, api.OK)
			wantEnd(t, x.i, cell, api.OK)
			wantEnd(t, x.i, cell, api.ErrState)
		}
		for region := range x.m.regions {
			wantDirty(t, x.i, all[region:]...)
			wantClean(t, x.i, region, true, api.OK)
		}
		wantDirty(t, x.i)
		wantCrash(t, x.i)
		wantBegin(t, x.i, 39, true, api.OK)
	}
}

// A crash tells also what is dirty though nothing of it is being written, and not what is clean.
func TestCrashTellsAllThatIsDirty(t *testing.T) {
	i := wantNew(t, 9)
	wantBegin(t, i, 39, true, api.OK)
	wantBegin(t, i, 0, true, api.OK)
	wantBegin(t, i, 20, true, api.OK)
	wantEnd(t, i, 39, api.OK)
	wantEnd(t, i, 20, api.OK)
	wantClean(t, i, 2, true, api.OK)
	wantCrash(t, i, 0, 4)
	wantDirty(t, i, 0, 4)
	wantClean(t, i, 0, true, api.OK)
	wantCrash(t, i, 4)
}

// Regions are told rising, in whatever order they became dirty.
func TestRising(t *testing.T) {
	for _, step := range []int{1, 3, 7, 9, 11, 13, 17, 19, 39} {
		i := wantNew(t, 1)
		var want []int
		for k := range cells {
			cell := (k * step) % cells
			wantBegin(t, i, cell, true, api.OK)
			want = append(want, cell)
			slices.Sort(want)
			wantDirty(t, i, want...)
		}
		wantCrash(t, i, want...)
	}
}

// Of a cell that is not there ErrRange is told, though there is no Begin of it either.
func TestWhichErrorIsTold(t *testing.T) {
	i := wantNew(t, 7)
	for _, cell := range noCells {
		wantEnd(t, i, cell, api.ErrRange)
		wantBegin(t, i, cell, false, api.ErrRange)
		wantEnd(t, i, cell, api.ErrRange)
	}
	wantEnd(t, i, 0, api.ErrState)
	wantEnd(t, i, 39, api.ErrState)
}

func TestErrorsAreTheNumbersOfThePromise(t *testing.T) {
	_, noWide := intent.New(41)
	i := wantNew(t, 7)
	_, noCell := i.Begin(40)
	_, noRegion := i.Clean(6)
	for k, err := range []error{noWide, noCell, i.End(40), i.End(39), noRegion} {
		if want := []api.Errno{1, 1, 1, 6, 1}[k]; plain.Told(err) != want {
			t.Errorf("told %d of error %d, want %d", plain.Told(err), k, want)
		}
	}
}

// With an error nothing is changed: whatever is kept, it is the same as if the call had not been.
func TestNothingIsChangedWithAnError(t *testing.T) {
	m := &maker{1}
	for wide := 1; wide <= cells; wide++ {
		x := newBoth(t, wide)
		for range 60 {
			x.anyStep(t, m)
		}
		was := x.i.Dirty()
		for _, n := range noRegions(len(x.m.regions)) {
			wantClean(t, x.i, n, false, api.ErrRange)
		}
		for _, n := range noCells {
			wantBegin(t, x.i, n, false, api.ErrRange)
			wantEnd(t, x.i, n, api.ErrRange)
		}
		for cell := range cells {
			if countOf(x.m.begun, cell) == 0 {
				wantEnd(t, x.i, cell, api.ErrState)
				wantEnd(t, x.i, cell, api.ErrState)
			}
		}
		wantDirty(t, x.i, was...)
		x.unwind(t)
	}
}

// Long rows of calls, right and wrong, answer as the model says, and leave what it says.
func TestManySteps(t *testing.T) {
	m := &maker{2}
	for round := range 400 {
		x := newBoth(t, 1+round%cells)
		for range 150 {
			x.anyStep(t, m)
		}
		x.unwind(t)
	}
}

func (x both) anyStep(t *testing.T, m *maker) {
	t.Helper()
	cell, region := m.below(cells+2)-1, m.below(len(x.m.regions)+2)-1
	if len(x.m.begun) > 0 && m.below(2) == 0 {
		cell = x.m.begun[m.below(len(x.m.begun))]
	}
	switch m.below(40) {
	case 0:
		x.crash(t)
	case 1, 2, 3, 4, 5, 6, 7, 8, 9, 10, 11, 12:
		x.begin(t, cell)
	case 13, 14, 15, 16, 17, 18, 19, 20, 21, 22, 23, 24, 25, 26:
		x.end(t, cell)
	default:
		x.clean(t, region)
	}
}

// Two intents have nothing in common.
func TestIntentsAreApart(t *testing.T) {
	a, b := wantNew(t, 10), wantNew(t, 10)
	wantBegin(t, a, 5, true, api.OK)
	wantDirty(t, b)
	wantEnd(t, b, 5, api.ErrState)
	wantBegin(t, b, 5, true, api.OK)
	wantBegin(t, b, 15, true, api.OK)
	wantCrash(t, b, 0, 1)
	wantDirty(t, a, 0)
	wantClean(t, a, 0, false, api.OK)
	wantEnd(t, a, 5, api.OK)
	wantClean(t, a, 0, true, api.OK)
	wantDirty(t, b, 0, 1)
}

// What came out is the caller's: it stays as it is, and what is done with it reaches nobody.
func TestWhatComesOutIsFresh(t *testing.T) {
	i := wantNew(t, 10)
	for _, cell := range []int{35, 5, 15} {
		wantBegin(t, i, cell, true, api.OK)
	}
	want := []int{0, 1, 3}
	all := [][]int{i.Dirty(), i.Dirty(), i.Crash(), i.Dirty(), i.Crash(), i.Crash()}
	for k, l := range all {
		if !slices.Equal(l, want) {
			t.Errorf("answer %d: %v, want %v", k, l, want)
		}
		l = l[:cap(l)]
		for at := range l {
			l[at] = -7
		}
	}
	wantDirty(t, i, want...)
	kept, crashed := i.Dirty(), i.Crash()
	wantClean(t, i, 1, true, api.OK)
	wantBegin(t, i, 25, true, api.OK)
	wantDirty(t, i, 0, 2, 3)
	if !slices.Equal(kept, want) || !slices.Equal(crashed, want) {
		t.Errorf("what came out changed: %v, %v, want %v", kept, crashed, want)
	}
	// Answers that grow behind their length do not reach each other.
	first, second := i.Dirty(), i.Dirty()
	first, second = append(first, 8), append(second, 9)
	if first[3] != 8 || second[3] != 9 {
		t.Errorf("answers share memory: %v, %v", first, second)
	}
	wantDirty(t, i, 0, 2, 3)
}

// The same calls on another intent of the same width are answered the same.
func TestSameAnswersAgain(t *testing.T) {
	played := func() (out []string) {
		m := &maker{3}
		i := wantNew(t, 6)
		for range 500 {
			cell := m.below(cells)
			switch m.below(5) {
			case 0, 1:
				is, err := i.Begin(cell)
				out = append(out, fmt.Sprint(is, plain.Told(err)))
			case 2, 3:
				out = append(out, fmt.Sprint(plain.Told(i.End(cell))))
			case 4:
				is, err := i.Clean(cell / 6)
				out = append(out, fmt.Sprint(is, plain.Told(err), i.Dirty()))
			}
		}
		return append(out, fmt.Sprint(i.Crash()))
	}
	if first, second := played(), played(); !slices.Equal(first, second) {
		t.Errorf("answers differ: %v, %v", first, second)
	}
}
