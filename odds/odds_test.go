package odds_test

import (
	"fmt"
	"math"
	"slices"
	"sync"
	"testing"

	"paritymill/api"
	"paritymill/odds"
	"paritymill/plain"
)

// below are numbers that are none of disks, of those that fail, and of parity.
var below = []int{-1, -2, -10, -11, -30, -256, math.MinInt32, -1 << 32, math.MinInt + 1, math.MinInt}

// above are so, too; some of them look like others where they are cut to a byte or four.
var above = []int{31, 32, 40, 63, 64, 65, 255, 256, 257, 266, 65536, 65537, 1 << 32, 1<<32 + 1, 1<<32 + 10, math.MaxInt32, 1 << 62, math.MaxInt - 1, math.MaxInt}

var (
	noThings = slices.Concat(below, above)
	noArrays = slices.Concat([]int{0, 11, 12, 30}, below, above)
	noParity = slices.Concat([]int{11, 12, 30}, below, above)
)

// noDisks are none of n, and of n + 1 no number of them that may fail.
func noDisks(n int) []int {
	return slices.Concat([]int{n, n + 1}, below, above)
}

// maker makes the same numbers in each run.
type maker struct{ state uint64 }

func (m *maker) below(n int) int {
	m.state = m.state*6364136223846793005 + 1442695040888963407
	return int(m.state>>33) % n
}

// of a list one.
func (m *maker) of(l []int) int {
	return l[m.below(len(l))]
}

// stripe has some of n disks, in any order.
func (m *maker) stripe(n int) []int {
	disks := all(n)
	for at := range disks {
		to := at + m.below(n-at)
		disks[at], disks[to] = disks[to], disks[at]
	}
	return disks[:m.below(n+1)]
}

func (m *maker) stripes(n, many int) [][]int {
	l := make([][]int, many)
	for at := range l {
		l[at] = m.stripe(n)
	}
	return l
}

// all disks of n.
func all(n int) (out []int) {
	for d := range n {
		out = append(out, d)
	}
	return out
}

// same stripe, so many times.
func same(many int, stripe ...int) [][]int {
	return slices.Repeat([][]int{stripe}, many)
}

// isTold tells that an error is the one that is wanted, and nil where none is.
func isTold(err error, want api.Errno) bool {
	return plain.Told(err) == want && err == nil == (want == api.OK)
}

func wantChoose(t *testing.T, n, k, want int, told api.Errno) {
	t.Helper()
	if got, err := odds.Choose(n, k); got != want || !isTold(err, told) {
		t.Errorf("Choose of %d, %d: %d, error %v, want %d, %v", n, k, got, err, want, told)
	}
}

func wantFatal(t *testing.T, n int, l [][]int, fails, parity, want int, told api.Errno) {
	t.Helper()
	if got, err := odds.Fatal(n, l, fails, parity); got != want || !isTold(err, told) {
		t.Errorf("Fatal of %d, %v, %d, %d: %d, error %v, want %d, %v", n, l, fails, parity, got, err, want, told)
	}
}

func wantWorst(t *testing.T, n int, l [][]int, parity, want int, told api.Errno) {
	t.Helper()
	if got, err := odds.Worst(n, l, parity); got != want || !isTold(err, told) {
		t.Errorf("Worst of %d, %v, %d: %d, error %v, want %d, %v", n, l, parity, got, err, want, told)
	}
}

// wantModel holds what is asked of stripes against the model.
func wantModel(t *testing.T, n int, l [][]int, fails, parity int) {
	t.Helper()
	want, told := modelFatal(n, l, fails, parity)
	wantFatal(t, n, l, fails, parity, want, told)
	want, told = modelWorst(n, l, parity)
	wantWorst(t, n, l, parity, want, told)
}

// wantAll holds stripes against the model for each number that fails and each parity, and one less and one more.
func wantAll(t *testing.T, n int, l [][]int) {
	t.Helper()
	for fails := -1; fails <= n+1; fails++ {
		for parity := -1; parity <= mostDisks+1; parity++ {
			want, told := modelFatal(n, l, fails, parity)
			wantFatal(t, n, l, fails, parity, want, told)
		}
	}
	for parity := -1; parity <= mostDisks+1; parity++ {
		want, told := modelWorst(n, l, parity)
		wantWorst(t, n, l, parity, want, told)
	}
}

// wantFault tells that stripes are refused, whether the other numbers are right or not: they come last.
func wantFault(t *testing.T, n int, l [][]int, told api.Errno) {
	t.Helper()
	for _, parity := range []int{0, 1, 10, -1, 11, math.MinInt, math.MaxInt} {
		wantWorst(t, n, l, parity, 0, told)
		for _, fails := range []int{0, 1, n, -1, n + 1, math.MinInt, math.MaxInt} {
			wantFatal(t, n, l, fails, parity, 0, told)
		}
	}
}

func TestBoundsAreThoseOfTheChapter(t *testing.T) {
	got := []int{api.MaxDisks, api.MaxCells}
	if want := []int{mostDisks, mostStripes}; !slices.Equal(got, want) {
		t.Errorf("bounds: %v, want %v", got, want)
	}
}

func TestChooseByHand(t *testing.T) {
	for k, want := range []int{1, 4, 6, 4, 1} {
		wantChoose(t, 4, k, want, api.OK)
	}
	for k, want := range []int{1, 10, 45, 120, 210, 252, 210, 120, 45, 10, 1} {
		wantChoose(t, 10, k, want, api.OK)
	}
	for k, want := range []int{1, 29, 406, 3654, 23751} {
		wantChoose(t, 29, k, want, api.OK)
		wantChoose(t, 29, 29-k, want, api.OK)
	}
}

func TestChooseOfTheLeastAndTheMost(t *testing.T) {
	wantChoose(t, 0, 0, 1, api.OK)
	wantChoose(t, 0, -1, 0, api.ErrRange)
	wantChoose(t, 0, 1, 0, api.ErrRange)
	wantChoose(t, 1, 0, 1, api.OK)
	wantChoose(t, 1, 1, 1, api.OK)
	wantChoose(t, 1, 2, 0, api.ErrRange)
	wantChoose(t, -1, 0, 0, api.ErrRange)
	wantChoose(t, -1, -1, 0, api.ErrRange)
	wantChoose(t, 30, -1, 0, api.ErrRange)
	wantChoose(t, 30, 0, 1, api.OK)
	wantChoose(t, 30, 1, 30, api.OK)
	wantChoose(t, 30, 2, 435, api.OK)
	wantChoose(t, 30, 14, 145422675, api.OK)
	wantChoose(t, 30, 15, 155117520, api.OK)
	wantChoose(t, 30, 16, 145422675, api.OK)
	wantChoose(t, 30, 29, 30, api.OK)
	wantChoose(t, 30, 30, 1, api.OK)
	wantChoose(t, 30, 31, 0, api.ErrRange)
	wantChoose(t, 31, 0, 0, api.ErrRange)
	wantChoose(t, 31, 15, 0, api.ErrRange)
	wantChoose(t, 31, 31, 0, api.ErrRange)
	wantChoose(t, 29, 14, 77558760, api.OK)
	wantChoose(t, 29, 15, 77558760, api.OK)
	wantChoose(t, 29, 30, 0, api.ErrRange)
}

// Of all numbers that may be, and one less and one more of each.
func TestChooseOfAllNumbers(t *testing.T) {
	for n := -2; n <= mostThings+2; n++ {
		for k := -2; k <= mostThings+3; k++ {
			want, told := modelChoose(n, k)
			wantChoose(t, n, k, want, told)
		}
	}
}

func TestChooseOfNoSuchNumbers(t *testing.T) {
	for _, n := range noThings {
		for _, k := range slices.Concat([]int{0, 1, 15, 30, n, n - 1, n + 1}, noThings) {
			wantChoose(t, n, k, 0, api.ErrRange)
		}
	}
	for n := range mostThings + 1 {
		for _, k := range append(noThings, n+1) {
			wantChoose(t, n, k, 0, api.ErrRange)
		}
	}
}

// Of one more, which is taken or not, there are as many ways as of both; and as many to take some as to leave them.
func TestChooseOfOneMore(t *testing.T) {
	choose := func(n, k int) int {
		got, err := odds.Choose(n, k)
		if err != nil {
			t.Errorf("Choose of %d, %d: error %v", n, k, err)
		}
		return got
	}
	for n := 1; n <= mostThings; n++ {
		sum := 0
		for k := range n + 1 {
			sum += choose(n, k)
			if choose(n, k) != choose(n, n-k) {
				t.Errorf("Choose of %d: of %d it is %d, of %d %d", n, k, choose(n, k), n-k, choose(n, n-k))
			}
		}
		if sum != 1<<n {
			t.Errorf("Choose of %d: %d ways in all", n, sum)
		}
		for k := 1; k < n; k++ {
			if taken, not := choose(n-1, k-1), choose(n-1, k); choose(n, k) != taken+not {
				t.Errorf("Choose of %d, %d: %d, want %d and %d", n, k, choose(n, k), taken, not)
			}
		}
	}
}

// All ways are written out beside each.
func TestByHand(t *testing.T) {
	l := [][]int{{0, 1}, {2, 1}, {3}}
	wantFatal(t, 4, l, 0, 0, 0, api.OK)
	wantFatal(t, 4, l, 1, 0, 4, api.OK)
	wantFatal(t, 4, l, 1, 1, 0, api.OK)
	wantFatal(t, 4, l, 2, 1, 2, api.OK) // 01 12
	wantFatal(t, 4, l, 3, 1, 3, api.OK) // 012 013 123
	wantFatal(t, 4, l, 4, 1, 1, api.OK)
	wantFatal(t, 4, l, 4, 2, 0, api.OK)
	wantFatal(t, 5, l, 1, 0, 4, api.OK) // not 4, which has no block
	wantFatal(t, 5, l, 3, 1, 5, api.OK) // 012 013 123 014 124
	wantWorst(t, 4, l, 0, 1, api.OK)
	wantWorst(t, 4, l, 1, 2, api.OK)
	wantWorst(t, 4, l, 2, -1, api.OK)
	l = [][]int{{4, 2, 0}, {1, 2, 3}}
	wantFatal(t, 5, l, 2, 1, 6, api.OK)
	wantFatal(t, 5, l, 3, 1, 10, api.OK)
	wantFatal(t, 5, l, 3, 2, 2, api.OK)
	wantFatal(t, 5, l, 4, 2, 4, api.OK) // 0 2 4 with 1 or 3, and 1 2 3 with 0 or 4
	wantFatal(t, 5, l, 5, 2, 1, api.OK)
	wantFatal(t, 5, l, 5, 3, 0, api.OK)
	wantWorst(t, 5, l, 2, 3, api.OK)
	wantWorst(t, 5, l, 3, -1, api.OK)
}

// No stripe loses anything, where there is none or none has a disk.
func TestNoStripesAndStripesOfNoDisks(t *testing.T) {
	for _, l := range [][][]int{nil, {}, {nil}, {{}}, {nil, {}, nil}, same(40)} {
		for n := 1; n <= mostDisks; n++ {
			for parity := range mostDisks + 1 {
				wantWorst(t, n, l, parity, -1, api.OK)
				for fails := range n + 1 {
					wantFatal(t, n, l, fails, parity, 0, api.OK)
				}
			}
			wantAll(t, n, l)
		}
	}
}

// A stripe of one disk is lost in each way in which that one fails, without parity alone.
func TestAStripeOfOneDisk(t *testing.T) {
	for n := 1; n <= mostDisks; n++ {
		for d := range n {
			l := [][]int{{d}}
			wantFatal(t, n, l, 0, 0, 0, api.OK)
			for fails := 1; fails <= n; fails++ {
				want, _ := modelChoose(n-1, fails-1)
				wantFatal(t, n, l, fails, 0, want, api.OK)
				wantFatal(t, n, l, fails, 1, 0, api.OK)
			}
			wantWorst(t, n, l, 0, 1, api.OK)
			wantWorst(t, n, l, 1, -1, api.OK)
			wantAll(t, n, l)
		}
	}
}

// A stripe of all disks loses as many as fail: with as many as parity has no way is fatal, with one more each is.
func TestAStripeOfAllDisks(t *testing.T) {
	for n := 1; n <= mostDisks; n++ {
		l := [][]int{all(n)}
		for parity := range mostDisks + 1 {
			for fails := range n + 1 {
				want := 0
				if fails > parity {
					want, _ = modelChoose(n, fails)
				}
				wantFatal(t, n, l, fails, parity, want, api.OK)
			}
		}
		wantAll(t, n, l)
	}
	wantFatal(t, 10, [][]int{all(10)}, 5, 4, 252, api.OK)
	wantFatal(t, 10, [][]int{all(10)}, 5, 5, 0, api.OK)
	wantFatal(t, 10, [][]int{all(10)}, 10, 9, 1, api.OK)
	wantFatal(t, 10, [][]int{all(10)}, 10, 10, 0, api.OK)
}

// Of one disk alone, and of as many as there may be.
func TestTheFewestAndTheMostDisks(t *testing.T) {
	wantFatal(t, 1, [][]int{{0}}, 0, 0, 0, api.OK)
	wantFatal(t, 1, [][]int{{0}}, 1, 0, 1, api.OK)
	wantFatal(t, 1, [][]int{{0}}, 1, 1, 0, api.OK)
	wantFatal(t, 1, [][]int{{0}}, 1, 10, 0, api.OK)
	wantFatal(t, 1, [][]int{{0}}, 2, 0, 0, api.ErrRange)
	wantFatal(t, 1, nil, 1, 0, 0, api.OK)
	wantWorst(t, 1, [][]int{{0}}, 0, 1, api.OK)
	wantWorst(t, 1, [][]int{{0}}, 10, -1, api.OK)
	l := [][]int{{0, 1, 2, 3, 4}, {9, 8, 7, 6, 5}}
	wantFatal(t, 10, l, 3, 2, 20, api.OK)
	wantFatal(t, 10, l, 4, 2, 110, api.OK)
	wantFatal(t, 10, l, 5, 2, 252, api.OK)
	wantFatal(t, 10, l, 4, 3, 10, api.OK)
	wantFatal(t, 10, l, 10, 4, 1, api.OK)
	wantFatal(t, 10, l, 10, 5, 0, api.OK)
	wantFatal(t, 10, l, 11, 5, 0, api.ErrRange)
	wantWorst(t, 10, l, 4, 5, api.OK)
	wantWorst(t, 10, l, 5, -1, api.OK)
	wantAll(t, 10, l)
	for _, n := range noArrays {
		wantFault(t, n, nil, api.ErrRange)
		wantFault(t, n, [][]int{{0}}, api.ErrRange)
	}
}

// Where no disk fails nothing is lost; where all fail there is one way, and it is fatal where a stripe is wider than parity.
func TestNoneFailsAndAllFail(t *testing.T) {
	m := &maker{7}
	for range 300 {
		n := 1 + m.below(mostDisks)
		l := m.stripes(n, m.below(6))
		widest := 0
		for _, stripe := range l {
			widest = max(widest, len(stripe))
		}
		for parity := range mostDisks + 1 {
			wantFatal(t, n, l, 0, parity, 0, api.OK)
			want := 0
			if widest > parity {
				want = 1
			}
			wantFatal(t, n, l, n, parity, want, api.OK)
			for _, fails := range []int{-1, n + 1} {
				wantFatal(t, n, l, fails, parity, 0, api.ErrRange)
			}
		}
	}
}

func TestNoSuchNumberFails(t *testing.T) {
	for n := 1; n <= mostDisks; n++ {
		for _, l := range [][][]int{nil, {nil}, {{0}}, {all(n)}, same(40, all(n)...)} {
			for _, fails := range noDisks(n + 1) {
				for _, parity := range []int{0, 1, 10, -1, 11} {
					wantFatal(t, n, l, fails, parity, 0, api.ErrRange)
				}
			}
		}
	}
}

func TestNoSuchParity(t *testing.T) {
	for n := 1; n <= mostDisks; n++ {
		for _, l := range [][][]int{nil, {nil}, {{0}}, {all(n)}, same(40, all(n)...)} {
			for _, parity := range noParity {
				wantWorst(t, n, l, parity, 0, api.ErrRange)
				for _, fails := range []int{0, 1, n, -1, n + 1} {
					wantFatal(t, n, l, fails, parity, 0, api.ErrRange)
				}
			}
		}
	}
}

// Parity may be more than there are disks, up to MaxDisks, and then nothing is too much.
func TestParityOfMoreThanAllDisks(t *testing.T) {
	for n := 1; n <= mostDisks; n++ {
		for parity := n; parity <= mostDisks; parity++ {
			wantWorst(t, n, [][]int{all(n)}, parity, -1, api.OK)
			wantFatal(t, n, [][]int{all(n)}, n, parity, 0, api.OK)
		}
	}
}

// A stripe loses too much with one more than parity alone: of as many that fail as parity has no way is fatal.
func TestAsManyFailAsParityHas(t *testing.T) {
	m := &maker{11}
	for range 200 {
		n := 1 + m.below(mostDisks)
		l := m.stripes(n, m.below(8))
		for parity := range n {
			wantFatal(t, n, l, parity, parity, 0, api.OK)
			// Those that fail are all of one stripe: as many ways as there are different choices of them.
			var found [][]int
			eachWay(n, parity+1, func(failed []int) {
				if slices.ContainsFunc(l, func(stripe []int) bool { return isIn(failed, stripe) }) {
					found = append(found, failed)
				}
			})
			wantFatal(t, n, l, parity+1, parity, len(found), api.OK)
		}
	}
}

func isIn(few, many []int) bool {
	return !slices.ContainsFunc(few, func(d int) bool { return !slices.Contains(many, d) })
}

// A way in which several stripes lose too much counts once: be they the same stripe, others, or ones in another order.
func TestAWayCountsOnce(t *testing.T) {
	for _, l := range [][][]int{{{1, 2}}, {{1, 2}, {1, 2}}, {{1, 2}, {2, 1}}, same(40, 2, 1), {{1, 2}, {2}, nil, {1}}} {
		wantFatal(t, 4, l, 2, 1, 1, api.OK)
		wantFatal(t, 4, l, 3, 1, 2, api.OK)
		wantFatal(t, 4, l, 4, 1, 1, api.OK)
		wantFatal(t, 4, l, 4, 0, 1, api.OK)
		wantWorst(t, 4, l, 1, 2, api.OK)
		wantWorst(t, 4, l, 2, -1, api.OK)
	}
	wantFatal(t, 4, [][]int{{0, 1}, {2, 3}}, 4, 1, 1, api.OK)
	wantFatal(t, 4, [][]int{{0, 1}, {2, 3}}, 3, 1, 4, api.OK)
	wantFatal(t, 4, [][]int{{0, 1}, {1, 2}, {2, 0}}, 3, 1, 4, api.OK)
	wantFatal(t, 3, [][]int{{0}, {1}, {2}}, 2, 0, 3, api.OK)
}

// What two stripes lose together is not what one loses.
func TestStripesDoNotLoseTogether(t *testing.T) {
	l := [][]int{{0, 1}, {2, 3}, {4, 5}}
	wantFatal(t, 6, l, 2, 1, 3, api.OK)
	wantFatal(t, 6, l, 3, 1, 12, api.OK)
	wantFatal(t, 6, l, 6, 2, 0, api.OK)
	wantWorst(t, 6, l, 2, -1, api.OK)
	wantWorst(t, 6, l, 5, -1, api.OK)
}

// Worst is one more than parity where a stripe is so wide; where parity is as many as the widest there is none.
func TestWorstOfEachWidth(t *testing.T) {
	for n := 1; n <= mostDisks; n++ {
		for wide := range n + 1 {
			for _, l := range stripesWith(all(n)[n-wide:]) {
				for parity := range mostDisks + 1 {
					want := -1
					// The stripes beside it are of one disk.
					if parity < wide || parity == 0 && len(slices.Concat(l...)) > 0 {
						want = parity + 1
					}
					wantWorst(t, n, l, parity, want, api.OK)
				}
			}
		}
		wantWorst(t, n, [][]int{all(n)}, n-1, n, api.OK)
		wantWorst(t, n, [][]int{all(n)}, n, -1, api.OK)
	}
}

// Fatal and Worst tell the same: below the worst number no way is fatal, and from there on some are.
func TestWorstIsTheFirstThatIsFatal(t *testing.T) {
	m := &maker{13}
	for range 400 {
		n := 1 + m.below(mostDisks)
		l := m.stripes(n, m.below(12))
		parity := m.below(mostDisks + 1)
		worst, err := odds.Worst(n, l, parity)
		if err != nil {
			t.Errorf("Worst of %d, %v, %d: error %v", n, l, parity, err)
		}
		for fails := range n + 1 {
			fatal, err := odds.Fatal(n, l, fails, parity)
			if err != nil || fatal > 0 != (worst >= 0 && fails >= worst) {
				t.Errorf("Fatal of %d, %v, %d, %d: %d, error %v, where the worst is %d", n, l, fails, parity, fatal, err, worst)
			}
		}
	}
}

// stripesWith have a stripe at each of several places: first, in the middle, last, and as the last of as many as may be.
func stripesWith(stripe []int) [][][]int {
	return [][][]int{{stripe}, {stripe, {0}}, {nil, stripe}, {{0}, {0}, stripe, nil}, append(same(mostStripes-1, 0), stripe)}
}

// As many stripes as may be, and one more: of stripes without disks, with one, and with all.
func TestTheMostStripes(t *testing.T) {
	for n := 1; n <= mostDisks; n++ {
		for _, stripe := range [][]int{nil, {0}, {n - 1}, all(n)} {
			for many := mostStripes - 1; many <= mostStripes; many++ {
				wantModel(t, n, same(many, stripe...), n/2, 0)
				wantModel(t, n, same(many, stripe...), n, n-1)
			}
			for _, many := range []int{mostStripes + 1, mostStripes + 2, 256, 1000} {
				wantFault(t, n, same(many, stripe...), api.ErrFull)
			}
		}
	}
	// The last of as many as may be counts as the first does.
	wantFatal(t, 3, append(same(39), []int{1, 2}), 2, 1, 1, api.OK)
	wantWorst(t, 3, append(same(39), []int{1, 2}), 1, 2, api.OK)
}

// A disk that is none of n, wherever in a stripe, and in whichever stripe.
func TestStripesWithNoDisk(t *testing.T) {
	for n := 1; n <= mostDisks; n++ {
		for at := range n {
			for _, no := range noDisks(n) {
				stripe := all(n)
				stripe[at] = no
				for _, l := range stripesWith(stripe) {
					wantFatal(t, n, l, 0, 0, 0, api.ErrRange)
					wantFatal(t, n, l, n, 10, 0, api.ErrRange)
					wantWorst(t, n, l, 0, 0, api.ErrRange)
					wantWorst(t, n, l, 10, 0, api.ErrRange)
				}
			}
		}
		wantFault(t, n, [][]int{{n}}, api.ErrRange)
		wantFault(t, n, [][]int{{0}, {-1}}, api.ErrRange)
	}
}

// A disk that is there twice, at each two places of a stripe, in whichever stripe.
func TestStripesWithADiskTwice(t *testing.T) {
	for n := 2; n <= mostDisks; n++ {
		for first := range n {
			for second := first + 1; second < n; second++ {
				stripe := all(n)
				stripe[second] = stripe[first]
				for _, l := range stripesWith(stripe) {
					wantFault(t, n, l, api.ErrClash)
				}
			}
		}
	}
	for n := 1; n <= mostDisks; n++ {
		for d := range n {
			wantFault(t, n, [][]int{{d, d}}, api.ErrClash)
			wantFault(t, n, [][]int{nil, append(all(n), d)}, api.ErrClash)
		}
	}
	// In two stripes it is not twice in one.
	wantFatal(t, 2, [][]int{{1}, {1}, {0, 1}, {1, 0}}, 1, 0, 2, api.OK)
}

// First n, then how many stripes there are, then stripe by stripe the disks ahead of the clash, and the other numbers last.
func TestWhichErrorIsTold(t *testing.T) {
	wantFault(t, 0, same(41, 0), api.ErrRange)
	wantFault(t, 11, same(41, 0, 0), api.ErrRange)
	wantFault(t, 11, [][]int{{3, 3}}, api.ErrRange)
	wantFault(t, 5, same(41, 7), api.ErrFull)
	wantFault(t, 5, same(41, 3, 3), api.ErrFull)
	wantFault(t, 5, [][]int{{3, 3, 5}}, api.ErrRange)
	wantFault(t, 5, [][]int{{5, 3, 3}}, api.ErrRange)
	wantFault(t, 5, [][]int{{5, 5}}, api.ErrRange)
	wantFault(t, 5, [][]int{{3, 3}, {5}}, api.ErrClash)
	wantFault(t, 5, [][]int{{5}, {3, 3}}, api.ErrRange)
	wantFault(t, 5, [][]int{{4}, nil, {3, 3}, {-1}, {5}}, api.ErrClash)
	wantFault(t, 5, [][]int{{4}, nil, {-1}, {3, 3}}, api.ErrRange)
}

// A stripe of more than all disks is refused, however long it is.
func TestLongStripes(t *testing.T) {
	long := slices.Repeat(all(mostDisks), 100_000)
	for _, c := range []struct {
		l    [][]int
		told api.Errno
	}{{[][]int{long}, api.ErrClash}, {[][]int{append(long, 10)}, api.ErrRange}, {[][]int{{0}, long}, api.ErrClash}} {
		fatal, noFatal := odds.Fatal(mostDisks, c.l, 1, 0)
		worst, noWorst := odds.Worst(mostDisks, c.l, 0)
		if fatal != 0 || worst != 0 || !isTold(noFatal, c.told) || !isTold(noWorst, c.told) {
			t.Errorf("long stripes: %d, error %v, and %d, error %v, want %v", fatal, noFatal, worst, noWorst, c.told)
		}
	}
}

func TestErrorsAreTheNumbersOfThePromise(t *testing.T) {
	_, noThings := odds.Choose(31, 0)
	_, noTaken := odds.Choose(5, 6)
	_, noArray := odds.Fatal(11, nil, 0, 0)
	_, full := odds.Fatal(1, same(mostStripes+1, 0), 0, 0)
	_, noDisk := odds.Fatal(1, [][]int{{1}}, 0, 0)
	_, twice := odds.Fatal(2, [][]int{{1, 1}}, 0, 0)
	_, noFails := odds.Fatal(1, nil, 2, 0)
	_, noParity := odds.Fatal(1, nil, 0, 11)
	_, worstArray := odds.Worst(0, nil, 0)
	_, worstFull := odds.Worst(1, same(mostStripes+1, 0), 0)
	_, worstTwice := odds.Worst(2, [][]int{{1, 1}}, 0)
	_, worstParity := odds.Worst(1, nil, -1)
	told := []error{noThings, noTaken, noArray, full, noDisk, twice, noFails, noParity, worstArray, worstFull, worstTwice, worstParity}
	for k, want := range []api.Errno{1, 1, 1, 4, 1, 7, 1, 1, 1, 4, 7, 1} {
		if plain.Told(told[k]) != want {
			t.Errorf("told %d of error %d, want %d", plain.Told(told[k]), k, want)
		}
	}
}

// All stripes of up to three disks and two stripes of them, right and wrong.
func TestAllFewStripes(t *testing.T) {
	var stripes [][]int
	var from func(stripe []int)
	from = func(stripe []int) {
		stripes = append(stripes, stripe)
		if len(stripe) == 3 {
			return
		}
		for d := -1; d <= 3; d++ {
			from(append(slices.Clone(stripe), d))
		}
	}
	from(nil)
	for _, first := range stripes {
		for n := 1; n <= 3; n++ {
			wantAll(t, n, [][]int{first})
		}
		for _, second := range stripes {
			wantModel(t, 3, [][]int{first, second}, 2, 1)
			wantModel(t, 3, [][]int{first, second}, 2, 0)
		}
	}
}

// Stripes as they come, now and then with a fault, against the model.
func TestAgainstTheModel(t *testing.T) {
	m := &maker{1}
	for range 3000 {
		n := 1 + m.below(mostDisks)
		l := m.stripes(n, m.below(mostStripes+1))
		if few := m.below(2); few == 0 {
			l = m.stripes(n, m.below(4))
		}
		m.spoil(n, l)
		fails, parity := m.below(n+1), m.below(min(n+1, 5))
		switch m.below(20) {
		case 0:
			fails = m.of(noDisks(n + 1))
		case 1:
			parity = m.of(noParity)
		case 2:
			parity = m.below(mostDisks + 1)
		}
		wantModel(t, n, l, fails, parity)
	}
}

// spoil a stripe, now and then.
func (m *maker) spoil(n int, l [][]int) {
	if len(l) == 0 || m.below(8) > 0 {
		return
	}
	stripe := l[m.below(len(l))]
	if len(stripe) == 0 {
		return
	}
	if m.below(2) == 0 {
		stripe[m.below(len(stripe))] = m.of(noDisks(n))
		return
	}
	stripe[m.below(len(stripe))] = stripe[m.below(len(stripe))]
}

// inMemory lays stripes into longer memory, with disks and what is none behind each, and stripes behind all.
func inMemory(l [][]int) [][]int {
	long := make([][]int, 0, len(l)+3)
	for _, stripe := range l {
		long = append(long, append(slices.Clone(stripe), 0, 1, 77, -5)[:len(stripe)])
	}
	return append(long, []int{99}, []int{0, 1, 2}, nil)[:len(l)]
}

// memory tells all of it, also what lies behind each length.
func memory(l [][]int) string {
	out := fmt.Sprint(len(l), cap(l))
	for _, stripe := range l[:cap(l)] {
		out += fmt.Sprint(stripe == nil, len(stripe), cap(stripe), stripe[:cap(stripe)])
	}
	return out
}

// What is handed in stays as it is, and what lies behind its length is neither read nor written, with an error or none.
func TestWhatIsHandedInIsNotChanged(t *testing.T) {
	m := &maker{3}
	lists := [][][]int{nil, {}, {nil}, {{2, 1, 0}}, {{9, 0}, {}, {3}}, {{1, 1}}, {{2, 1, 12}, {1, 1}}, {{-1}}, same(40, 2, 0), same(41, 2, 0)}
	for range 30 {
		lists = append(lists, m.stripes(1+m.below(mostDisks), m.below(mostStripes+2)))
	}
	for _, l := range lists {
		laid := inMemory(l)
		before := memory(laid)
		for n := 0; n <= mostDisks+1; n++ {
			for _, parity := range []int{-1, 0, 2, 10, 11} {
				wantModel(t, n, laid, n/2, parity)
			}
		}
		if after := memory(laid); after != before {
			t.Errorf("%v: memory was %s, is %s", l, before, after)
		}
	}
}

// Stripes may share memory with one another, and one list may be asked again when it was changed.
func TestWhatIsHandedInIsNotKept(t *testing.T) {
	disks := all(6)
	l := [][]int{disks[0:3], disks[1:4], disks[2:2]}
	wantFatal(t, 6, l, 3, 2, 2, api.OK)
	wantWorst(t, 6, l, 2, 3, api.OK)
	disks[0], l[1] = 5, nil
	wantFatal(t, 6, l, 3, 2, 1, api.OK)
	disks[0] = 1
	wantFatal(t, 6, l, 3, 2, 0, api.ErrClash)
	wantWorst(t, 6, l, 2, 0, api.ErrClash)
	l[0] = nil
	wantWorst(t, 6, l, 0, -1, api.OK)
}

// Calls do not hang on one another: in whatever order, with errors between, and at the same time.
func TestTheSameAgain(t *testing.T) {
	l := [][]int{{0, 3, 1}, {2, 3}, {4}}
	ask := func() {
		wantChoose(t, 30, 15, 155117520, api.OK)
		wantFatal(t, 5, l, 2, 1, 4, api.OK)
		wantFatal(t, 5, [][]int{{0, 0}}, 2, 1, 0, api.ErrClash)
		wantWorst(t, 5, l, 1, 2, api.OK)
		wantFatal(t, 5, l, 3, 2, 1, api.OK)
		wantChoose(t, 4, 5, 0, api.ErrRange)
		wantWorst(t, 5, l, 3, -1, api.OK)
		wantWorst(t, 4, l, 3, 0, api.ErrRange)
		wantFatal(t, 5, l, 1, 0, 5, api.OK)
		wantChoose(t, 0, 0, 1, api.OK)
	}
	for range 50 {
		ask()
	}
	var asked sync.WaitGroup
	for range 8 {
		asked.Go(func() {
			for range 50 {
				ask()
			}
		})
	}
	asked.Wait()
}
