package locks_test

import (
	"fmt"
	"math"
	"slices"
	"testing"

	"paritymill/api"
	"paritymill/locks"
	"paritymill/plain"
)

// below are numbers that are no Who, no From and no To.
var below = []int{-1, -2, -39, -40, -255, -256, -1000, math.MinInt32, -1 << 32, math.MinInt + 1, math.MinInt}

// above are so, too; some of them look like others where they are cut to a byte or four.
var above = []int{1001, 1024, 65536, 65537, 1 << 32, 1<<32 + 1, 1<<32 + 20, math.MaxInt32, 1 << 62, math.MaxInt - 1, math.MaxInt}

var (
	noWhos  = slices.Concat([]int{0}, below, above)
	noFroms = slices.Concat([]int{40, 41, 255, 256, 1000}, below, above)
	noTos   = slices.Concat([]int{0, 41, 42, 256, 257, 1000}, below, above)
)

// maker makes the same numbers in each run.
type maker struct{ state uint64 }

func (m *maker) below(n int) int {
	m.state = m.state*6364136223846793005 + 1442695040888963407
	return int(m.state>>33) % n
}

func (m *maker) of(l []int) int {
	return l[m.below(len(l))]
}

// alone is a lock of one that is Alone.
func alone(who, from, to int) api.Lock {
	return api.Lock{Who: who, From: from, To: to, Alone: true}
}

// shared is a lock of one that is not Alone.
func shared(who, from, to int) api.Lock {
	return api.Lock{Who: who, From: from, To: to}
}

// isTold tells that an error is the one that is wanted, and nil where none is.
func isTold(err error, want api.Errno) bool {
	return plain.Told(err) == want && err == nil == (want == api.OK)
}

func wantHolds(t *testing.T, k *locks.Locks, l api.Lock) {
	t.Helper()
	if is, err := k.Ask(l); !is || err != nil {
		t.Errorf("Ask of %v: %v, error %v, want that it is Held", l, is, err)
	}
}

func wantQueues(t *testing.T, k *locks.Locks, l api.Lock) {
	t.Helper()
	if is, err := k.Ask(l); is || err != nil {
		t.Errorf("Ask of %v: %v, error %v, want that it Waits", l, is, err)
	}
}

func wantRefused(t *testing.T, k *locks.Locks, l api.Lock, told api.Errno) {
	t.Helper()
	if is, err := k.Ask(l); is || !isTold(err, told) {
		t.Errorf("Ask of %v: %v, error %v, want false, %v", l, is, err, told)
	}
}

func wantFree(t *testing.T, k *locks.Locks, who int, then ...int) {
	t.Helper()
	if got, err := k.Free(who); !slices.Equal(got, then) || err != nil {
		t.Errorf("Free of %d: %v, error %v, want %v", who, got, err, then)
	}
}

func wantNone(t *testing.T, k *locks.Locks, who int) {
	t.Helper()
	if got, err := k.Free(who); len(got) != 0 || !isTold(err, api.ErrNone) {
		t.Errorf("Free of %d: %v, error %v, want none, ErrNone", who, got, err)
	}
}

func wantLists(t *testing.T, k *locks.Locks, held, waits []api.Lock) {
	t.Helper()
	if got := k.Held(); !slices.Equal(got, held) {
		t.Errorf("Held: %v, want %v", got, held)
	}
	if got := k.Waits(); !slices.Equal(got, waits) {
		t.Errorf("Waits: %v, want %v", got, waits)
	}
}

func whosOf(l []api.Lock) (out []int) {
	for _, x := range l {
		out = append(out, x.Who)
	}
	return out
}

// wantWhos are those that are Held, and those that Wait, by their Who.
func wantWhos(t *testing.T, k *locks.Locks, held, waits []int) {
	t.Helper()
	gotHeld, gotWaits := whosOf(k.Held()), whosOf(k.Waits())
	if !slices.Equal(gotHeld, held) || !slices.Equal(gotWaits, waits) {
		t.Errorf("Held %v, Waits %v, want %v, %v", gotHeld, gotWaits, held, waits)
	}
}

// asks makes Locks of which all of these asked.
func asks(t *testing.T, list ...api.Lock) *locks.Locks {
	t.Helper()
	k := locks.New()
	for _, l := range list {
		if _, err := k.Ask(l); err != nil {
			t.Errorf("Ask of %v: error %v", l, err)
		}
	}
	return k
}

// both does the same with Locks and their model, and holds one against the other.
type both struct {
	k *locks.Locks
	m *model
}

func newBoth() both {
	return both{locks.New(), &model{}}
}

func (x both) ask(t *testing.T, l api.Lock) {
	t.Helper()
	want, told := x.m.ask(l)
	if is, err := x.k.Ask(l); is != want || !isTold(err, told) {
		t.Errorf("Ask of %v: %v, error %v, want %v, %v", l, is, err, want, told)
	}
}

func (x both) free(t *testing.T, who int) {
	t.Helper()
	want, told := x.m.free(who)
	if then, err := x.k.Free(who); !slices.Equal(then, want) || !isTold(err, told) {
		t.Errorf("Free of %d: %v, error %v, want %v, %v", who, then, err, want, told)
	}
}

// same holds all that can be asked against each other.
func (x both) same(t *testing.T) {
	t.Helper()
	wantLists(t, x.k, x.m.held(), x.m.waits())
}

func TestBoundsAreThoseOfTheChapter(t *testing.T) {
	if got, want := []int{api.MaxCells, api.MaxWait}, []int{mostCells, mostWait}; !slices.Equal(got, want) {
		t.Errorf("bounds: %v, want %v", got, want)
	}
}

func TestNewHasNone(t *testing.T) {
	k := locks.New()
	wantLists(t, k, nil, nil)
	for _, who := range []int{1, 2, 500, 999, 1000} {
		wantNone(t, k, who)
	}
	wantLists(t, k, nil, nil)
}

// Written out by hand: what the chapter says, one after another.
func TestByHand(t *testing.T) {
	k := locks.New()
	wantHolds(t, k, alone(7, 0, 10))
	wantHolds(t, k, shared(3, 10, 20))
	wantQueues(t, k, shared(5, 9, 12))
	wantQueues(t, k, alone(1, 11, 15))
	wantHolds(t, k, shared(2, 15, 20))
	wantQueues(t, k, shared(4, 11, 12))
	wantLists(t, k,
		[]api.Lock{alone(7, 0, 10), shared(3, 10, 20), shared(2, 15, 20)},
		[]api.Lock{shared(5, 9, 12), alone(1, 11, 15), shared(4, 11, 12)})
	wantRefused(t, k, shared(4, 30, 31), api.ErrClash)
	wantRefused(t, k, shared(6, 31, 31), api.ErrRange)
	wantNone(t, k, 6)
	wantFree(t, k, 7, 5)
	wantFree(t, k, 3)
	wantFree(t, k, 5, 1)
	wantLists(t, k, []api.Lock{shared(2, 15, 20), alone(1, 11, 15)}, []api.Lock{shared(4, 11, 12)})
	wantQueues(t, k, alone(3, 0, 40))
	wantFree(t, k, 1, 4)
	wantFree(t, k, 2)
	wantFree(t, k, 4, 3)
	wantLists(t, k, []api.Lock{alone(3, 0, 40)}, nil)
	wantFree(t, k, 3)
	wantLists(t, k, nil, nil)
}

func TestAskOfTheLeastAndTheGreatestWho(t *testing.T) {
	k := locks.New()
	wantHolds(t, k, alone(1, 0, 20))
	wantHolds(t, k, alone(1000, 20, 40))
	wantRefused(t, k, alone(0, 0, 1), api.ErrRange)
	wantRefused(t, k, alone(1001, 0, 1), api.ErrRange)
	wantLists(t, k, []api.Lock{alone(1, 0, 20), alone(1000, 20, 40)}, nil)
	wantFree(t, k, 1000)
	wantFree(t, k, 1)
}

// Each Who that may be is one of its own.
func TestAskOfAllWhos(t *testing.T) {
	for first := 1; first <= mostWho; first += mostWait {
		k := locks.New()
		var held []api.Lock
		for who := first; who < first+mostWait && who <= mostWho; who++ {
			l := shared(who, who%mostCells, mostCells)
			wantHolds(t, k, l)
			held = append(held, l)
		}
		wantLists(t, k, held, nil)
	}
}

// All cells that may be: from one on to below another one.
func TestAskOfAllCells(t *testing.T) {
	for from := range mostCells {
		for to := from + 1; to <= mostCells; to++ {
			for _, l := range []api.Lock{alone(1, from, to), shared(2, from, to)} {
				k := locks.New()
				wantHolds(t, k, l)
				wantLists(t, k, []api.Lock{l}, nil)
			}
		}
	}
}

// What may not be is refused, be it Alone or not, and be there others or none: nothing is changed.
func TestAskOfWhatMayNotBe(t *testing.T) {
	wrong := []api.Lock{{}, shared(1, 0, 0), shared(1, -1, 0), shared(1, -1, 1), shared(1, 3, 3), shared(1, 4, 3), shared(1, 39, 39), shared(1, 40, 40), shared(1, 40, 41), shared(1, 39, 41), shared(1, 0, 41), shared(1, 41, 40), shared(1, -3, -2), shared(1, math.MinInt, math.MaxInt), shared(1, math.MaxInt, math.MinInt)}
	for _, who := range noWhos {
		wrong = append(wrong, shared(who, 0, 40), shared(who, 5, 6))
	}
	for _, from := range noFroms {
		wrong = append(wrong, shared(1, from, 40), shared(1, from, 1), shared(1, from, from+1), shared(1000, from, from))
	}
	for _, to := range noTos {
		wrong = append(wrong, shared(1, 0, to), shared(1, 39, to), shared(1000, to-1, to))
	}
	k, empty := asks(t, alone(7, 0, 3), shared(8, 2, 5)), locks.New()
	for _, l := range wrong {
		for range 2 {
			l.Alone = !l.Alone
			wantRefused(t, k, l, api.ErrRange)
			wantRefused(t, empty, l, api.ErrRange)
		}
	}
	wantLists(t, k, []api.Lock{alone(7, 0, 3)}, []api.Lock{shared(8, 2, 5)})
	wantLists(t, empty, nil, nil)
	wantFree(t, k, 7, 8)
	wantHolds(t, k, shared(1, 0, 40))
}

// From is one less than To, the same, and one above it, all over the cells.
func TestAskOfFromAboutTo(t *testing.T) {
	for to := -1; to <= mostCells+2; to++ {
		k := locks.New()
		wantRefused(t, k, shared(1, to, to), api.ErrRange)
		wantRefused(t, k, shared(1, to+1, to), api.ErrRange)
		if to >= 1 && to <= mostCells {
			wantHolds(t, k, shared(1, to-1, to))
		} else {
			wantRefused(t, k, shared(1, to-1, to), api.ErrRange)
		}
	}
}

// Several faults at once are one ErrRange.
func TestAskOfSeveralFaults(t *testing.T) {
	k := asks(t, alone(5, 0, 40))
	for _, who := range []int{0, 1001, 5, 6} {
		for _, from := range []int{-1, 40, 41, 3} {
			for _, to := range []int{0, 41, 3, 2, -5} {
				wantRefused(t, k, alone(who, from, to), api.ErrRange)
				wantRefused(t, k, shared(who, from, to), api.ErrRange)
			}
		}
	}
	wantLists(t, k, []api.Lock{alone(5, 0, 40)}, nil)
}

// Two are at odds, if they have a cell in common and one of them is Alone: of all pairs on few cells, and on those at both ends.
func TestTwoAtOdds(t *testing.T) {
	for _, ends := range [][]int{{0, 1, 2, 3, 4, 5, 6, 7, 8}, {32, 33, 34, 35, 36, 37, 38, 39, 40}, {0, 1, 2, 19, 20, 21, 38, 39, 40}} {
		var spans []api.Lock
		for at, from := range ends {
			for _, to := range ends[at+1:] {
				spans = append(spans, alone(1, from, to), shared(1, from, to))
			}
		}
		for _, a := range spans {
			for _, b := range spans {
				b.Who = 2
				common := 0
				for cell := a.From; cell < a.To; cell++ {
					if b.From <= cell && cell < b.To {
						common++
					}
				}
				k := asks(t, a)
				if common > 0 && (a.Alone || b.Alone) {
					wantQueues(t, k, b)
					wantLists(t, k, []api.Lock{a}, []api.Lock{b})
					wantFree(t, k, 1, 2)
					wantLists(t, k, []api.Lock{b}, nil)
				} else {
					wantHolds(t, k, b)
					wantLists(t, k, []api.Lock{a, b}, nil)
					wantFree(t, k, 1)
				}
			}
		}
	}
}

// Neither of two is Alone, the one, the other, both: on no cell in common, one, some, all.
func TestTwoByHand(t *testing.T) {
	first := alone(1, 10, 20)
	for _, c := range []struct {
		from, to int
		odds     bool
	}{
		{0, 10, false}, {0, 11, true}, {9, 10, false}, {10, 11, true}, {10, 20, true}, {12, 15, true}, {5, 25, true}, {0, 40, true}, {19, 20, true}, {19, 40, true}, {20, 21, false}, {20, 40, false}, {0, 1, false}, {39, 40, false},
	} {
		for _, l := range []api.Lock{alone(2, c.from, c.to), shared(2, c.from, c.to)} {
			if c.odds {
				wantQueues(t, asks(t, first), l)
			} else {
				wantHolds(t, asks(t, first), l)
			}
		}
		if c.odds {
			wantQueues(t, asks(t, shared(1, 10, 20)), alone(2, c.from, c.to))
		} else {
			wantHolds(t, asks(t, shared(1, 10, 20)), alone(2, c.from, c.to))
		}
		wantHolds(t, asks(t, shared(1, 10, 20)), shared(2, c.from, c.to))
	}
}

// Of many that are Held it is enough to be at odds with any one of them.
func TestAtOddsWithOneOfMany(t *testing.T) {
	for at := range mostCells {
		k := locks.New()
		for who := 1; who <= 20; who++ {
			wantHolds(t, k, alone(who, who*2-2, who*2))
		}
		wantQueues(t, k, shared(100, at, at+1))
		for who := 1; who <= 20; who++ {
			if at/2 == who-1 {
				wantFree(t, k, who, 100)
			} else {
				wantFree(t, k, who)
			}
		}
		wantLists(t, k, []api.Lock{shared(100, at, at+1)}, nil)
	}
}

// Any number of those that are not Alone may have all cells in common; one that is Alone waits for all of them.
func TestManyThatAreNotAlone(t *testing.T) {
	k := locks.New()
	for who := 1; who < mostWait; who++ {
		wantHolds(t, k, shared(who, 0, 40))
	}
	wantQueues(t, k, alone(30, 39, 40))
	for who := 1; who < mostWait-1; who++ {
		wantFree(t, k, who)
	}
	wantFree(t, k, 29, 30)
}

// One that is Held, or Waits, asks no second time, whatever it asks for.
func TestAskAgain(t *testing.T) {
	k := asks(t, alone(1, 0, 10), shared(2, 5, 12), shared(3, 20, 22), alone(4, 21, 25))
	held, waits := k.Held(), k.Waits()
	wantWhos(t, k, []int{1, 3}, []int{2, 4})
	for who := 1; who <= 4; who++ {
		for _, l := range slices.Concat(held, waits, []api.Lock{shared(0, 30, 31), alone(0, 30, 31), alone(0, 0, 40), shared(0, 39, 40)}) {
			l.Who = who
			wantRefused(t, k, l, api.ErrClash)
		}
		wantRefused(t, k, shared(who, 30, 30), api.ErrRange)
		wantRefused(t, k, shared(who, 30, 41), api.ErrRange)
		wantRefused(t, k, shared(who, -1, 3), api.ErrRange)
	}
	wantLists(t, k, held, waits)
	// Of what was refused nothing is in the way.
	wantHolds(t, k, alone(5, 30, 40))
}

// One may ask again when it is freed, for other cells, too; so it may when it was Held behind waiting.
func TestAskAgainBehindAFree(t *testing.T) {
	k := asks(t, alone(1, 0, 10), alone(2, 5, 12))
	wantFree(t, k, 2)
	wantHolds(t, k, shared(2, 10, 12))
	wantFree(t, k, 1)
	wantQueues(t, k, alone(1, 11, 13))
	wantLists(t, k, []api.Lock{shared(2, 10, 12)}, []api.Lock{alone(1, 11, 13)})
	wantFree(t, k, 2, 1)
	wantRefused(t, k, shared(1, 30, 31), api.ErrClash)
	wantQueues(t, k, shared(2, 12, 14))
	wantLists(t, k, []api.Lock{alone(1, 11, 13)}, []api.Lock{shared(2, 12, 14)})
	for range 100 {
		wantFree(t, k, 1, 2)
		wantQueues(t, k, alone(1, 11, 13))
		wantFree(t, k, 2, 1)
		wantQueues(t, k, shared(2, 12, 14))
	}
	wantLists(t, k, []api.Lock{alone(1, 11, 13)}, []api.Lock{shared(2, 12, 14)})
}

// full makes Locks of which so many are Held, of a cell each, and the others of MaxWait Wait, for the first one's cell.
func full(t *testing.T, heldCount int) *locks.Locks {
	t.Helper()
	k := locks.New()
	var held, waits []api.Lock
	for who := 1; who <= mostWait; who++ {
		l := alone(who, who, who+1)
		if who <= heldCount {
			wantHolds(t, k, l)
			held = append(held, l)
		} else {
			l.From, l.To = 1, 2
			wantQueues(t, k, l)
			waits = append(waits, l)
		}
	}
	wantLists(t, k, held, waits)
	return k
}

// So many are Held and Wait together, in all ways to share: one more is refused, though it were at odds with none.
func TestAskWhereThereIsNoRoom(t *testing.T) {
	for heldCount := 1; heldCount <= mostWait; heldCount++ {
		k := full(t, heldCount)
		held, waits := k.Held(), k.Waits()
		for _, l := range []api.Lock{alone(31, 39, 40), shared(31, 39, 40), alone(31, 0, 40), shared(1000, 0, 1), shared(31, 1, 2)} {
			wantRefused(t, k, l, api.ErrFull)
		}
		wantRefused(t, k, alone(31, 40, 40), api.ErrRange)
		wantRefused(t, k, alone(0, 39, 40), api.ErrRange)
		for who := 1; who <= mostWait; who++ {
			wantRefused(t, k, shared(who, 39, 40), api.ErrClash)
			wantRefused(t, k, shared(who, 39, 41), api.ErrRange)
		}
		wantNone(t, k, 31)
		wantNone(t, k, 1000)
		wantLists(t, k, held, waits)
	}
}

// With one less there is room for one, which may be Held, or Wait.
func TestAskWhereThereIsRoomForOne(t *testing.T) {
	for heldCount := 1; heldCount <= mostWait; heldCount++ {
		k := full(t, heldCount)
		wantFree(t, k, 30)
		wantHolds(t, k, alone(31, 39, 40))
		wantRefused(t, k, alone(30, 38, 39), api.ErrFull)
		wantFree(t, k, 31)
		wantQueues(t, k, shared(32, 1, 40))
		wantRefused(t, k, alone(30, 38, 39), api.ErrFull)
		wantFree(t, k, 32)
		wantHolds(t, k, alone(30, 38, 39))
		wantRefused(t, k, shared(31, 0, 1), api.ErrFull)
		wantRefused(t, k, shared(30, 0, 1), api.ErrClash)
	}
}

// Room is for both together: those that come to be Held take as much as when they waited.
func TestRoomBehindAFree(t *testing.T) {
	k := full(t, 1)
	for who := 1; who < mostWait; who++ {
		wantFree(t, k, who, who+1)
		wantHolds(t, k, shared(100+who, 20, 30))
		wantRefused(t, k, shared(200, 35, 36), api.ErrFull)
	}
	if held, waits := len(k.Held()), len(k.Waits()); held != mostWait || waits != 0 {
		t.Errorf("Held %d, Wait %d, want 30, 0", held, waits)
	}
}

// One is at odds with none that is Held, but with one that Waits: it Waits behind it, and is Held when nothing is in its way.
func TestAtOddsWithOneThatWaits(t *testing.T) {
	k := asks(t, shared(1, 0, 10), alone(2, 5, 15))
	wantQueues(t, k, shared(3, 5, 6))
	wantQueues(t, k, alone(4, 14, 15))
	wantHolds(t, k, shared(5, 0, 5))
	wantHolds(t, k, alone(6, 15, 16))
	wantLists(t, k, []api.Lock{shared(1, 0, 10), shared(5, 0, 5), alone(6, 15, 16)}, []api.Lock{alone(2, 5, 15), shared(3, 5, 6), alone(4, 14, 15)})
	wantFree(t, k, 1, 2)
	wantFree(t, k, 2, 3, 4)
	wantWhos(t, k, []int{5, 6, 3, 4}, nil)
}

// It may be any one that waits, not only the first and the last.
func TestAtOddsWithAnyOneThatWaits(t *testing.T) {
	for at := range 10 {
		k := asks(t, shared(1, 0, 40))
		for place := range 10 {
			wantQueues(t, k, alone(10+place, place, place+1))
		}
		wantQueues(t, k, shared(50, at, at+1))
		wantHolds(t, k, shared(51, 10, 40))
		wantFree(t, k, 1, 10, 11, 12, 13, 14, 15, 16, 17, 18, 19)
		wantFree(t, k, 10+at, 50)
	}
}

// Who may not be, and who has no lock, is freed as little.
func TestFreeOfNone(t *testing.T) {
	k := asks(t, alone(1, 0, 10), shared(1000, 5, 12), shared(3, 20, 22))
	held, waits := k.Held(), k.Waits()
	for _, who := range slices.Concat(noWhos, []int{2, 4, 30, 31, 40, 256 + 1, 999}) {
		wantNone(t, k, who)
	}
	wantLists(t, k, held, waits)
	wantFree(t, k, 3)
	wantNone(t, k, 3)
	wantFree(t, k, 1, 1000)
	wantNone(t, k, 1)
	wantLists(t, k, []api.Lock{shared(1000, 5, 12)}, nil)
	wantFree(t, k, 1000)
	wantNone(t, k, 1000)
	wantLists(t, k, nil, nil)
}

// Free of one that is Held: none is Held then, one, several, all.
func TestFreeOfOneThatIsHeld(t *testing.T) {
	k := asks(t, alone(1, 0, 10), shared(2, 30, 40), alone(3, 35, 36))
	wantFree(t, k, 1)
	wantLists(t, k, []api.Lock{shared(2, 30, 40)}, []api.Lock{alone(3, 35, 36)})
	wantFree(t, k, 2, 3)
	k = asks(t, alone(1, 0, 10), shared(2, 0, 5), shared(3, 0, 5), alone(4, 4, 6), alone(5, 6, 7), shared(6, 6, 8), alone(7, 8, 10), shared(8, 10, 11))
	wantWhos(t, k, []int{1, 8}, []int{2, 3, 4, 5, 6, 7})
	wantFree(t, k, 1, 2, 3, 5, 7)
	wantWhos(t, k, []int{8, 2, 3, 5, 7}, []int{4, 6})
	wantFree(t, k, 2)
	wantFree(t, k, 3, 4)
	wantFree(t, k, 7)
	wantFree(t, k, 5, 6)
	wantWhos(t, k, []int{8, 4, 6}, nil)
}

// One that is in the way of two frees them only as far as nothing else is.
func TestFreeOfOneOfSeveralInTheWay(t *testing.T) {
	k := asks(t, shared(1, 0, 5), shared(2, 3, 8), alone(3, 4, 6), alone(4, 0, 1), alone(5, 7, 8))
	wantWhos(t, k, []int{1, 2}, []int{3, 4, 5})
	wantFree(t, k, 1, 4)
	wantFree(t, k, 2, 3, 5)
	wantWhos(t, k, []int{4, 3, 5}, nil)
}

// One that is Held then is in the way of one behind it.
func TestHeldThenIsInTheWay(t *testing.T) {
	k := asks(t, alone(1, 0, 10), alone(2, 0, 10), alone(3, 0, 10), shared(4, 9, 10))
	wantFree(t, k, 1, 2)
	wantLists(t, k, []api.Lock{alone(2, 0, 10)}, []api.Lock{alone(3, 0, 10), shared(4, 9, 10)})
	wantFree(t, k, 2, 3)
	wantFree(t, k, 3, 4)
	wantLists(t, k, []api.Lock{shared(4, 9, 10)}, nil)
	// One that is not Alone lets others that are not, but none that is.
	k = asks(t, alone(1, 0, 10), shared(2, 0, 10), alone(3, 5, 6), shared(4, 0, 4), shared(5, 5, 6))
	wantFree(t, k, 1, 2, 4)
	wantWhos(t, k, []int{2, 4}, []int{3, 5})
}

// One that goes on to wait is in the way of one behind it, though none that is Held is.
func TestWaitsOnIsInTheWay(t *testing.T) {
	k := asks(t, shared(1, 0, 5), shared(2, 5, 10), alone(3, 0, 10), alone(4, 9, 12), shared(5, 0, 1), shared(6, 11, 13))
	wantWhos(t, k, []int{1, 2}, []int{3, 4, 5, 6})
	wantFree(t, k, 2)
	wantWhos(t, k, []int{1}, []int{3, 4, 5, 6})
	wantFree(t, k, 1, 3)
	wantFree(t, k, 3, 4, 5)
	wantFree(t, k, 4, 6)
}

// One that Waits is freed: others are Held, of which it was all that was in the way.
func TestFreeOfOneThatWaits(t *testing.T) {
	k := asks(t, shared(1, 0, 10), alone(2, 5, 15), shared(3, 5, 6), alone(4, 12, 13), shared(5, 12, 14), alone(6, 0, 2))
	wantWhos(t, k, []int{1}, []int{2, 3, 4, 5, 6})
	wantFree(t, k, 2, 3, 4)
	wantLists(t, k, []api.Lock{shared(1, 0, 10), shared(3, 5, 6), alone(4, 12, 13)}, []api.Lock{shared(5, 12, 14), alone(6, 0, 2)})
	wantFree(t, k, 6)
	wantFree(t, k, 4, 5)
	wantWhos(t, k, []int{1, 3, 5}, nil)
	// One in the middle of a row, and the last one, let nobody go ahead.
	k = asks(t, alone(1, 0, 3), alone(2, 0, 3), alone(3, 0, 3), alone(4, 0, 3))
	wantFree(t, k, 3)
	wantFree(t, k, 4)
	wantWhos(t, k, []int{1}, []int{2})
	wantFree(t, k, 2)
	wantLists(t, k, []api.Lock{alone(1, 0, 3)}, nil)
}

// Those that are Held then are told as they waited, not by their Who, their cells, or whether they are Alone.
func TestHeldThenAreToldAsTheyWaited(t *testing.T) {
	whos := []int{500, 3, 1000, 7, 1, 999, 2}
	k := asks(t, alone(50, 0, 40))
	for at, who := range whos {
		l := shared(who, 30-at*3, 32-at*3)
		l.Alone = at%2 == 0
		wantQueues(t, k, l)
	}
	wantWhos(t, k, []int{50}, whos)
	wantFree(t, k, 50, whos...)
	wantWhos(t, k, whos, nil)
}

// Held is in the order in which they came to be, not in that in which they asked: one that waited stands behind one that asked later.
func TestOrderOfHeld(t *testing.T) {
	k := asks(t, alone(9, 0, 5), alone(8, 0, 5), shared(7, 20, 25), shared(6, 4, 5), shared(5, 20, 25))
	wantWhos(t, k, []int{9, 7, 5}, []int{8, 6})
	wantFree(t, k, 9, 8)
	wantWhos(t, k, []int{7, 5, 8}, []int{6})
	wantHolds(t, k, shared(4, 30, 31))
	wantFree(t, k, 8, 6)
	wantWhos(t, k, []int{7, 5, 4, 6}, nil)
	wantFree(t, k, 5)
	wantWhos(t, k, []int{7, 4, 6}, nil)
	wantHolds(t, k, shared(5, 20, 25))
	wantWhos(t, k, []int{7, 4, 6, 5}, nil)
	wantFree(t, k, 7)
	wantWhos(t, k, []int{4, 6, 5}, nil)
}

// Waits is in the order in which they asked, though some of them are gone; one that asks again stands behind all.
func TestOrderOfWaits(t *testing.T) {
	k := asks(t, alone(1, 0, 40))
	for _, who := range []int{30, 10, 20, 5, 40} {
		wantQueues(t, k, alone(who, who-5, who))
	}
	wantFree(t, k, 10)
	wantWhos(t, k, []int{1}, []int{30, 20, 5, 40})
	wantQueues(t, k, alone(10, 0, 1))
	wantFree(t, k, 30)
	wantWhos(t, k, []int{1}, []int{20, 5, 40, 10})
	wantFree(t, k, 40)
	wantQueues(t, k, shared(30, 0, 40))
	wantWhos(t, k, []int{1}, []int{20, 5, 10, 30})
	wantFree(t, k, 1, 20, 5)
	wantWhos(t, k, []int{20, 5}, []int{10, 30})
}

// Where several errors apply the one that the chapter names first is told.
func TestWhichErrorIsTold(t *testing.T) {
	k := full(t, 15)
	held, waits := k.Held(), k.Waits()
	// ErrRange, though it is Held, or Waits, and there is no room.
	wantRefused(t, k, shared(1, 3, 3), api.ErrRange)
	wantRefused(t, k, shared(30, 0, 41), api.ErrRange)
	wantRefused(t, k, shared(31, -1, 41), api.ErrRange)
	wantRefused(t, k, shared(1001, 0, 40), api.ErrRange)
	// ErrClash, though there is no room.
	wantRefused(t, k, shared(1, 1, 2), api.ErrClash)
	wantRefused(t, k, shared(30, 1, 2), api.ErrClash)
	// ErrFull, though it would be at odds, or with none.
	wantRefused(t, k, shared(31, 1, 2), api.ErrFull)
	wantRefused(t, k, shared(31, 39, 40), api.ErrFull)
	// A Who that may not be is ErrNone: of Free the chapter names no other.
	wantNone(t, k, 0)
	wantNone(t, k, 1001)
	wantLists(t, k, held, waits)
}

func TestErrorsAreTheNumbersOfThePromise(t *testing.T) {
	k := full(t, 2)
	_, noWho := k.Ask(shared(0, 0, 1))
	_, noCells := k.Ask(shared(31, 40, 41))
	_, isHeld := k.Ask(shared(2, 0, 1))
	_, isWaiting := k.Ask(shared(3, 0, 1))
	_, noRoom := k.Ask(shared(31, 0, 1))
	_, nobody := k.Free(31)
	told := []error{noWho, noCells, isHeld, isWaiting, noRoom, nobody}
	for at, want := range []api.Errno{1, 1, 7, 7, 4, 5} {
		if plain.Told(told[at]) != want {
			t.Errorf("told %d of error %d, want %d", plain.Told(told[at]), at, want)
		}
	}
}

// kindsOn are all locks on so many cells, Alone and not.
func kindsOn(cells int) (out []api.Lock) {
	for from := range cells {
		for to := from + 1; to <= cells; to++ {
			out = append(out, alone(0, from, to), shared(0, from, to))
		}
	}
	return out
}

// eachRow calls with all rows of so many locks out of kinds, whose Whos are 1, 2 and so on.
func eachRow(kinds []api.Lock, count int, do func(row []api.Lock)) {
	row := make([]api.Lock, count)
	rows := 1
	for range count {
		rows *= len(kinds)
	}
	for number := range rows {
		for at := range row {
			row[at] = kinds[number%len(kinds)]
			row[at].Who = at + 1
			number /= len(kinds)
		}
		do(row)
	}
}

// orders are all in which so many can stand.
func orders(count int) (out [][]int) {
	if count == 0 {
		return [][]int{nil}
	}
	for _, order := range orders(count - 1) {
		for at := range count {
			out = append(out, slices.Insert(slices.Clone(order), at, count))
		}
	}
	return out
}

// asksBoth makes Locks with their model of which all of a row asked.
func asksBoth(t *testing.T, row []api.Lock) both {
	t.Helper()
	x := newBoth()
	for _, l := range row {
		x.ask(t, l)
	}
	x.same(t)
	return x
}

// All rows of few locks, freed in all orders, answer and leave what the model says.
func TestEachRowInEachOrder(t *testing.T) {
	for _, c := range []struct{ cells, count int }{{1, 5}, {2, 4}, {3, 3}} {
		all := orders(c.count)
		eachRow(kindsOn(c.cells), c.count, func(row []api.Lock) {
			for _, order := range all {
				x := asksBoth(t, row)
				for _, who := range order {
					x.free(t, who)
					x.same(t)
				}
			}
		})
	}
}

// All rows of some more locks, of which each one is freed, or asks, or both.
func TestEachRowAndOneFree(t *testing.T) {
	for _, c := range []struct{ cells, count int }{{2, 5}, {3, 4}} {
		eachRow(kindsOn(c.cells), c.count, func(row []api.Lock) {
			for who := 1; who <= c.count; who++ {
				x := asksBoth(t, row)
				x.ask(t, shared(who, 39, 40))
				x.free(t, who)
				x.same(t)
				x.ask(t, shared(who, 0, c.cells))
				x.same(t)
			}
		})
	}
}

// No two that are Held are at odds, and nobody waits for nothing: one that is Held, or one ahead, is in its way.
func (x both) isSound(t *testing.T) {
	t.Helper()
	ahead := x.k.Held()
	for at, l := range ahead {
		if slices.ContainsFunc(ahead[:at], func(other api.Lock) bool { return inTheWay(other, l) }) {
			t.Errorf("%v is Held, and at odds with another: %v", l, ahead)
		}
	}
	for _, l := range x.k.Waits() {
		if !slices.ContainsFunc(ahead, func(other api.Lock) bool { return inTheWay(other, l) }) {
			t.Errorf("%v Waits for nothing: %v", l, ahead)
		}
		ahead = append(ahead, l)
	}
}

// inTheWay tells by the first cell that both could have whether they are at odds.
func inTheWay(a, b api.Lock) bool {
	return max(a.From, b.From) < min(a.To, b.To) && (a.Alone || b.Alone)
}

// anyLock is one that may be, of cells that are many only now and then.
func anyLock(m *maker, whos, wide int) api.Lock {
	from := m.below(mostCells)
	to := min(from+1+m.below(wide), mostCells)
	return api.Lock{Who: 1 + m.below(whos), From: from, To: to, Alone: m.below(2) == 0}
}

// anyStep asks, or frees one that there is, or now and then any.
func (x both) anyStep(t *testing.T, m *maker, whos, wide, frees int) {
	t.Helper()
	switch {
	case m.below(12) > frees:
		x.ask(t, anyLock(m, whos, wide))
	case len(x.m.list) > 0 && m.below(8) > 0:
		x.free(t, x.m.list[m.below(len(x.m.list))].lock.Who)
	default:
		x.free(t, 1+m.below(whos))
	}
}

// Long rows of calls, of few and of many, with much room and with none, answer as the model says, and leave what it says.
func TestManySteps(t *testing.T) {
	m := &maker{1}
	fulls := 0
	for _, whos := range []int{3, 8, 35, 1000} {
		for _, wide := range []int{1, 2, 5, 12, 40} {
			for frees := 2; frees <= 8; frees += 2 {
				x := newBoth()
				for range 600 {
					x.anyStep(t, m, whos, wide, frees)
					x.same(t)
					x.isSound(t)
					if len(x.m.list) == mostWait {
						fulls++
					}
				}
			}
		}
	}
	if fulls < 1000 {
		t.Errorf("only %d times there was no room", fulls)
	}
}

// wrongCalls are all refused, as the model has it.
func (x both) wrongCalls(t *testing.T, m *maker) {
	t.Helper()
	wantRefused(t, x.k, shared(m.of(noWhos), 3, 4), api.ErrRange)
	wantRefused(t, x.k, alone(1+m.below(mostWho), m.of(noFroms), 40), api.ErrRange)
	wantRefused(t, x.k, alone(1+m.below(mostWho), 0, m.of(noTos)), api.ErrRange)
	wantNone(t, x.k, m.of(noWhos))
	for _, one := range x.m.list {
		l := anyLock(m, 1, mostCells)
		l.Who = one.lock.Who
		wantRefused(t, x.k, l, api.ErrClash)
	}
	if who := 1 + m.below(mostWho); x.m.find(who) == -1 {
		wantNone(t, x.k, who)
		if len(x.m.list) == mostWait {
			wantRefused(t, x.k, alone(who, 0, 1), api.ErrFull)
		}
	}
}

// With an error nothing is changed: Locks that were asked wrongly go on as their model, which was not.
func TestNothingIsChangedWithAnError(t *testing.T) {
	m := &maker{2}
	for range 60 {
		x := newBoth()
		for range 100 {
			x.anyStep(t, m, 1+m.below(mostWho), 8, 3)
			x.wrongCalls(t, m)
			x.same(t)
		}
	}
}

// To ask for the lists changes nothing.
func TestWhatAsksChangesNothing(t *testing.T) {
	m := &maker{3}
	for range 50 {
		x := newBoth()
		for range 60 {
			x.anyStep(t, m, 40, 8, 3)
			for range 3 {
				x.same(t)
			}
		}
	}
}

// Two Locks of New know nothing of each other.
func TestLocksAreApart(t *testing.T) {
	a, b := locks.New(), locks.New()
	wantHolds(t, a, alone(1, 0, 40))
	wantQueues(t, a, alone(2, 0, 40))
	wantLists(t, b, nil, nil)
	wantNone(t, b, 1)
	wantHolds(t, b, alone(2, 0, 40))
	wantQueues(t, b, alone(1, 0, 40))
	wantFree(t, b, 2, 1)
	wantLists(t, a, []api.Lock{alone(1, 0, 40)}, []api.Lock{alone(2, 0, 40)})
	wantLists(t, b, []api.Lock{alone(1, 0, 40)}, nil)
	// One that is full leaves the other its room.
	full(t, 10)
	wantQueues(t, b, shared(9, 0, 1))
}

// spoil all that a list has, also behind its length.
func spoil[T any](l []T, by T) {
	l = l[:cap(l)]
	for at := range l {
		l[at] = by
	}
}

// Lists that come out are the caller's: they stay as they are, and what is done with them reaches nobody.
func TestListsThatComeOutAreFresh(t *testing.T) {
	k := asks(t, alone(1, 0, 10), shared(2, 0, 5), shared(3, 2, 7), alone(4, 6, 9), shared(5, 20, 30))
	held, waits := []api.Lock{alone(1, 0, 10), shared(5, 20, 30)}, []api.Lock{shared(2, 0, 5), shared(3, 2, 7), alone(4, 6, 9)}
	oldHeld, oldWaits := k.Held(), k.Waits()
	for range 3 {
		spoil(k.Held(), alone(99, 0, 40))
		spoil(k.Waits(), alone(98, 0, 40))
		wantLists(t, k, held, waits)
	}
	then, err := k.Free(1)
	if !slices.Equal(then, []int{2, 3}) || err != nil {
		t.Errorf("Free: %v, error %v", then, err)
	}
	spoil(then, 97)
	wantLists(t, k, []api.Lock{shared(5, 20, 30), shared(2, 0, 5), shared(3, 2, 7)}, []api.Lock{alone(4, 6, 9)})
	if !slices.Equal(oldHeld, held) || !slices.Equal(oldWaits, waits) {
		t.Errorf("what came out changed: %v, %v", oldHeld, oldWaits)
	}
	// Answers that grow behind their length do not reach each other, nor what is there.
	first, second := append(k.Held(), alone(8, 0, 1)), append(k.Held(), alone(9, 0, 1))
	third, fourth := append(k.Waits(), alone(8, 0, 1)), append(k.Waits(), alone(9, 0, 1))
	first[0], third[0] = alone(7, 0, 1), alone(7, 0, 1)
	if first[3].Who != 8 || second[3].Who != 9 || second[0].Who != 5 || third[1].Who != 8 || fourth[1].Who != 9 || fourth[0].Who != 4 {
		t.Errorf("answers share memory: %v, %v, %v, %v", first, second, third, fourth)
	}
	wantLists(t, k, []api.Lock{shared(5, 20, 30), shared(2, 0, 5), shared(3, 2, 7)}, []api.Lock{alone(4, 6, 9)})
	wantNone(t, k, 97)
	wantFree(t, k, 2)
	wantFree(t, k, 3, 4)
}

// So they are at each step of a long row of calls, and those that were told ahead stay as they were.
func TestListsStayAsTheyWereTold(t *testing.T) {
	m := &maker{4}
	var kept, copies [][]api.Lock
	x := newBoth()
	for range 400 {
		x.anyStep(t, m, 35, 8, 4)
		held, waits := x.k.Held(), x.k.Waits()
		kept, copies = append(kept, held, waits), append(copies, slices.Clone(held), slices.Clone(waits))
		spoil(x.k.Held(), alone(1000, 0, 40))
		spoil(x.k.Waits(), alone(1000, 0, 40))
		x.same(t)
	}
	for at := range kept {
		if !slices.Equal(kept[at], copies[at]) {
			t.Errorf("list %d changed: %v, was %v", at, kept[at], copies[at])
		}
	}
}

// The same calls on other Locks are answered the same.
func TestSameAnswersAgain(t *testing.T) {
	answers := func() (out []string) {
		m := &maker{5}
		k := locks.New()
		for range 500 {
			l := anyLock(m, 40, 8)
			if m.below(3) > 0 {
				is, err := k.Ask(l)
				out = append(out, fmt.Sprint(is, plain.Told(err)))
			} else {
				then, err := k.Free(l.Who)
				out = append(out, fmt.Sprint(then, plain.Told(err)))
			}
			out = append(out, fmt.Sprint(k.Held(), k.Waits()))
		}
		return out
	}
	if first, second := answers(), answers(); !slices.Equal(first, second) {
		t.Errorf("answers differ: %v, %v", first, second)
	}
}
