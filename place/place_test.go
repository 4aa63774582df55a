package place_test

import (
	"fmt"
	"math"
	"slices"
	"testing"

	"paritymill/api"
	"paritymill/place"
	"paritymill/plain"
)

// below are numbers that are none of disks, of widths and of stripes.
var below = []int{-1, -2, -10, -11, -40, -256, math.MinInt32, -1 << 32, math.MinInt + 1, math.MinInt}

// above are so, too; some of them look like others where they are cut to a byte or four.
var above = []int{41, 42, 255, 256, 257, 266, 65536, 65537, 1 << 32, 1<<32 + 1, 1<<32 + 10, math.MaxInt32, 1 << 62, math.MaxInt - 1, math.MaxInt}

var (
	noArrays = slices.Concat([]int{0, 11, 12, 40}, below, above)
	noMany   = slices.Concat(below, above)
)

// noDisks are none of n.
func noDisks(n int) []int {
	return slices.Concat([]int{n, n + 1, 40}, below, above)
}

// maker makes the same numbers in each run.
type maker struct{ state uint64 }

func (m *maker) below(n int) int {
	m.state = m.state*6364136223846793005 + 1442695040888963407
	return int(m.state>>33) % n
}

// of a list one.
func (m *maker) of(l []int) int {
	return l[m.below(len(l))]
}

// stripe has some of n disks, in any order.
func (m *maker) stripe(n int) []int {
	disks := all(n)
	for at := range disks {
		to := at + m.below(n-at)
		disks[at], disks[to] = disks[to], disks[at]
	}
	return disks[:m.below(n+1)]
}

func (m *maker) stripes(n, many int) [][]int {
	l := make([][]int, many)
	for at := range l {
		l[at] = m.stripe(n)
	}
	return l
}

// all disks of n.
func all(n int) (out []int) {
	for d := range n {
		out = append(out, d)
	}
	return out
}

// same stripe, so many times.
func same(many int, stripe ...int) [][]int {
	return slices.Repeat([][]int{stripe}, many)
}

// copied has memory of its own.
func copied(l [][]int) (out [][]int) {
	for _, stripe := range l {
		out = append(out, slices.Clone(stripe))
	}
	return out
}

func isSame(a, b [][]int) bool {
	return slices.EqualFunc(a, b, slices.Equal[[]int])
}

// isTold tells that an error is the one that is wanted, and nil where none is.
func isTold(err error, want api.Errno) bool {
	return plain.Told(err) == want && err == nil == (want == api.OK)
}

func wantPlace(t *testing.T, n, wide, many int, want [][]int, told api.Errno) {
	t.Helper()
	if got, err := place.Place(n, wide, many); !isSame(got, want) || !isTold(err, told) {
		t.Errorf("Place of %d, %d, %d: %v, error %v, want %v, %v", n, wide, many, got, err, want, told)
	}
}

func wantLoads(t *testing.T, n int, l [][]int, want []int, told api.Errno) {
	t.Helper()
	if got, err := place.Loads(n, l); !slices.Equal(got, want) || !isTold(err, told) {
		t.Errorf("Loads of %d, %v: %v, error %v, want %v, %v", n, l, got, err, want, told)
	}
}

func wantHurt(t *testing.T, l [][]int, d int, want []int, told api.Errno) {
	t.Helper()
	if got, err := place.Hurt(l, d); !slices.Equal(got, want) || !isTold(err, told) {
		t.Errorf("Hurt of %v, %d: %v, error %v, want %v, %v", l, d, got, err, want, told)
	}
}

func wantPeers(t *testing.T, n int, l [][]int, d int, want []int, told api.Errno) {
	t.Helper()
	if got, err := place.Peers(n, l, d); !slices.Equal(got, want) || !isTold(err, told) {
		t.Errorf("Peers of %d, %v, %d: %v, error %v, want %v, %v", n, l, d, got, err, want, told)
	}
}

// wantModel holds all that may be asked of stripes against the model.
func wantModel(t *testing.T, n int, l [][]int, d int) {
	t.Helper()
	loads, told := modelLoads(n, l)
	wantLoads(t, n, l, loads, told)
	hurt, told := modelHurt(l, d)
	wantHurt(t, l, d, hurt, told)
	peers, told := modelPeers(n, l, d)
	wantPeers(t, n, l, d, peers, told)
}

// wantFault tells that each call tells the same of stripes, where n and d are right.
func wantFault(t *testing.T, n int, l [][]int, told api.Errno) {
	t.Helper()
	wantLoads(t, n, l, nil, told)
	wantPeers(t, n, l, 0, nil, told)
	wantPeers(t, n, l, n-1, nil, told)
	if n == mostDisks {
		wantHurt(t, l, 0, nil, told)
		wantHurt(t, l, n-1, nil, told)
	}
}

func TestBoundsAreThoseOfTheChapter(t *testing.T) {
	got := []int{api.MaxDisks, api.MaxCells}
	if want := []int{mostDisks, mostStripes}; !slices.Equal(got, want) {
		t.Errorf("bounds: %v, want %v", got, want)
	}
}

// Disks that have as many blocks as others: the least numbers are taken, and where a stripe did not go round the last ones come first.
func TestPlaceByHand(t *testing.T) {
	wantPlace(t, 4, 2, 3, [][]int{{0, 1}, {2, 3}, {0, 1}}, api.OK)
	wantPlace(t, 3, 2, 4, [][]int{{0, 1}, {0, 2}, {1, 2}, {0, 1}}, api.OK)
	wantPlace(t, 5, 3, 6, [][]int{{0, 1, 2}, {0, 3, 4}, {1, 2, 3}, {0, 1, 4}, {2, 3, 4}, {0, 1, 2}}, api.OK)
	wantPlace(t, 5, 4, 3, [][]int{{0, 1, 2, 3}, {0, 1, 2, 4}, {0, 1, 3, 4}}, api.OK)
	wantPlace(t, 7, 2, 5, [][]int{{0, 1}, {2, 3}, {4, 5}, {0, 6}, {1, 2}}, api.OK)
	wantPlace(t, 10, 7, 4, [][]int{{0, 1, 2, 3, 4, 5, 6}, {0, 1, 2, 3, 7, 8, 9}, {0, 4, 5, 6, 7, 8, 9}, {1, 2, 3, 4, 5, 6, 7}}, api.OK)
}

func TestPlaceOfTheLeastAndTheMost(t *testing.T) {
	wantPlace(t, 1, 1, 0, nil, api.OK)
	wantPlace(t, 1, 1, 1, [][]int{{0}}, api.OK)
	wantPlace(t, 1, 1, 40, same(40, 0), api.OK)
	wantPlace(t, 10, 1, 0, nil, api.OK)
	wantPlace(t, 10, 10, 0, nil, api.OK)
	wantPlace(t, 10, 10, 40, same(40, 0, 1, 2, 3, 4, 5, 6, 7, 8, 9), api.OK)
	wantPlace(t, 10, 1, 12, [][]int{{0}, {1}, {2}, {3}, {4}, {5}, {6}, {7}, {8}, {9}, {0}, {1}}, api.OK)
	for _, no := range [][3]int{{0, 1, 1}, {11, 1, 1}, {0, 0, 1}, {1, 0, 1}, {1, 2, 1}, {10, 0, 1}, {10, 11, 1}, {11, 11, 1}, {1, 1, -1}, {1, 1, 41}, {10, 10, -1}, {10, 10, 41}} {
		wantPlace(t, no[0], no[1], no[2], nil, api.ErrRange)
	}
}

// Of all numbers that may be, and one less and one more of each.
func TestPlaceOfAllNumbers(t *testing.T) {
	for n := -1; n <= mostDisks+1; n++ {
		for wide := -1; wide <= mostDisks+2; wide++ {
			for many := -1; many <= mostStripes+1; many++ {
				want, told := modelPlace(n, wide, many)
				wantPlace(t, n, wide, many, want, told)
				if told == api.OK {
					wantPlace(t, n, wide, many, modelRound(n, wide, many), api.OK)
				}
			}
		}
	}
}

func TestPlaceOfNoSuchNumbers(t *testing.T) {
	for n := 1; n <= mostDisks; n++ {
		for _, wide := range append(noDisks(n+1), 0) {
			for _, many := range []int{-1, 0, 1, 40, 41} {
				wantPlace(t, n, wide, many, nil, api.ErrRange)
			}
		}
		for _, many := range noMany {
			wantPlace(t, n, 1, many, nil, api.ErrRange)
			wantPlace(t, n, n, many, nil, api.ErrRange)
		}
	}
	for _, n := range noArrays {
		for _, many := range []int{-1, 0, 1, 40, 41} {
			wantPlace(t, n, 1, many, nil, api.ErrRange)
			wantPlace(t, n, 10, many, nil, api.ErrRange)
			wantPlace(t, n, n, many, nil, api.ErrRange)
		}
	}
}

// Nobody has two more, wherever it ends, and the disks of each stripe rise; Loads tells that none is there twice.
func TestNobodyHasTwoMore(t *testing.T) {
	for n := 1; n <= mostDisks; n++ {
		for wide := 1; wide <= n; wide++ {
			for many := range mostStripes + 1 {
				l, err := place.Place(n, wide, many)
				if err != nil || len(l) != many {
					t.Errorf("Place of %d, %d, %d: %v, error %v", n, wide, many, l, err)
				}
				for _, stripe := range l {
					if len(stripe) != wide || !slices.IsSorted(stripe) {
						t.Errorf("Place of %d, %d, %d: stripe %v", n, wide, many, stripe)
					}
				}
				loads, err := place.Loads(n, l)
				if err != nil || len(loads) != n || slices.Max(loads)-slices.Min(loads) > 1 {
					t.Errorf("Place of %d, %d, %d: loads %v, error %v", n, wide, many, loads, err)
				}
			}
		}
	}
}

// One behind the other: what is placed first does not hang on how many come behind it.
func TestPlaceOfFewerIsTheBeginning(t *testing.T) {
	for n := 1; n <= mostDisks; n++ {
		for wide := 1; wide <= n; wide++ {
			most, err := place.Place(n, wide, mostStripes)
			if err != nil || len(most) != mostStripes {
				t.Fatalf("Place of %d, %d: %v, error %v", n, wide, most, err)
			}
			for many := range mostStripes {
				wantPlace(t, n, wide, many, most[:many], api.OK)
			}
		}
	}
}

func TestByHand(t *testing.T) {
	l := [][]int{{3, 0}, {}, {1, 3, 0}, {3}, {0, 1}}
	wantLoads(t, 5, l, []int{3, 2, 0, 3, 0}, api.OK)
	wantLoads(t, 4, l, []int{3, 2, 0, 3}, api.OK)
	wantLoads(t, 3, l, nil, api.ErrRange)
	wantHurt(t, l, 0, []int{0, 2, 4}, api.OK)
	wantHurt(t, l, 1, []int{2, 4}, api.OK)
	wantHurt(t, l, 2, nil, api.OK)
	wantHurt(t, l, 3, []int{0, 2, 3}, api.OK)
	wantHurt(t, l, 9, nil, api.OK)
	wantPeers(t, 5, l, 0, []int{0, 2, 0, 2, 0}, api.OK)
	wantPeers(t, 5, l, 1, []int{2, 0, 0, 1, 0}, api.OK)
	wantPeers(t, 5, l, 2, []int{0, 0, 0, 0, 0}, api.OK)
	wantPeers(t, 5, l, 3, []int{2, 1, 0, 0, 0}, api.OK)
	wantPeers(t, 5, l, 4, []int{0, 0, 0, 0, 0}, api.OK)
	wantPeers(t, 4, l, 3, []int{2, 1, 0, 0}, api.OK)
	wantPeers(t, 4, l, 4, nil, api.ErrRange)
}

// No stripes are nil or an empty list alike.
func TestNoStripes(t *testing.T) {
	for _, l := range [][][]int{nil, {}} {
		for n := 1; n <= mostDisks; n++ {
			wantLoads(t, n, l, make([]int, n), api.OK)
			for d := range n {
				wantPeers(t, n, l, d, make([]int, n), api.OK)
			}
		}
		for d := range mostDisks {
			wantHurt(t, l, d, nil, api.OK)
		}
	}
}

// As many as may be, and one more: of stripes without disks, with one, and with all.
func TestTheMostStripes(t *testing.T) {
	for n := 1; n <= mostDisks; n++ {
		for _, stripe := range [][]int{nil, {0}, {n - 1}, all(n)} {
			for many := mostStripes - 1; many <= mostStripes; many++ {
				l := same(many, stripe...)
				loads := make([]int, n)
				for _, d := range stripe {
					loads[d] = many
				}
				wantLoads(t, n, l, loads, api.OK)
				for d := range n {
					wantModel(t, n, l, d)
				}
			}
			for _, many := range []int{mostStripes + 1, mostStripes + 2, 256, 1000} {
				l := same(many, stripe...)
				wantFault(t, n, l, api.ErrFull)
				wantHurt(t, l, 0, nil, api.ErrFull)
				wantHurt(t, l, 9, nil, api.ErrFull)
			}
		}
	}
}

// A stripe without disks counts as a stripe, be it nil or an empty list.
func TestAStripeWithoutDisks(t *testing.T) {
	l := [][]int{nil, {2}, {}, {2, 0}, nil}
	wantLoads(t, 3, l, []int{1, 0, 2}, api.OK)
	wantHurt(t, l, 2, []int{1, 3}, api.OK)
	wantPeers(t, 3, l, 2, []int{1, 0, 0}, api.OK)
	wantLoads(t, 1, [][]int{nil}, []int{0}, api.OK)
	wantHurt(t, [][]int{nil}, 0, nil, api.OK)
	wantPeers(t, 1, [][]int{nil}, 0, []int{0}, api.OK)
}

// A stripe with one disk gives it no peer; with all, each other one.
func TestAStripeWithOneDiskAndWithAll(t *testing.T) {
	for n := 1; n <= mostDisks; n++ {
		for d := range n {
			one := make([]int, n)
			one[d] = 1
			wantLoads(t, n, [][]int{{d}}, one, api.OK)
			wantHurt(t, [][]int{{d}}, d, []int{0}, api.OK)
			wantPeers(t, n, [][]int{{d}}, d, make([]int, n), api.OK)
			others := slices.Repeat([]int{1}, n)
			wantLoads(t, n, [][]int{all(n)}, others, api.OK)
			others[d] = 0
			wantPeers(t, n, [][]int{all(n)}, d, others, api.OK)
		}
	}
}

// In whatever order the disks of a stripe stand, the answers are the same.
func TestTheOrderOfDisksDoesNotCount(t *testing.T) {
	for _, stripe := range [][]int{{1, 4, 6}, {6, 4, 1}, {4, 6, 1}, {4, 1, 6}} {
		l := [][]int{{6}, stripe}
		wantLoads(t, 7, l, []int{0, 1, 0, 0, 1, 0, 2}, api.OK)
		wantHurt(t, l, 6, []int{0, 1}, api.OK)
		wantHurt(t, l, 4, []int{1}, api.OK)
		wantPeers(t, 7, l, 4, []int{0, 1, 0, 0, 0, 0, 1}, api.OK)
	}
}

// stripesWith have a stripe at each of several places: first, in the middle, last, and as the last of as many as may be.
func stripesWith(stripe []int) [][][]int {
	return [][][]int{{stripe}, {stripe, {0}}, {nil, stripe}, {{0}, {0}, stripe, nil}, append(same(mostStripes-1, 0), stripe)}
}

// Disk 0 and the last one are there, and one less and one more are not, wherever in a stripe, and in whichever stripe.
func TestTheFirstAndTheLastDisk(t *testing.T) {
	for n := 1; n <= mostDisks; n++ {
		for at := range n {
			for _, l := range stripesWith(all(n)) {
				wantModel(t, n, l, at)
				loads, err := place.Loads(n, l)
				if err != nil || loads[0] < 1 || loads[n-1] < 1 {
					t.Errorf("Loads of %d, %v: %v, error %v", n, l, loads, err)
				}
			}
			for _, no := range noDisks(n) {
				stripe := all(n)
				stripe[at] = no
				for _, l := range stripesWith(stripe) {
					wantFault(t, n, l, api.ErrRange)
				}
			}
		}
	}
}

// Of Hurt a disk is one of as many as there may be, though no array of them is named.
func TestDisksOfHurt(t *testing.T) {
	l := [][]int{{9}, {0, 9}, {8}}
	wantHurt(t, l, 9, []int{0, 1}, api.OK)
	wantHurt(t, l, 8, []int{2}, api.OK)
	wantHurt(t, l, 0, []int{1}, api.OK)
	for _, no := range noDisks(mostDisks) {
		for _, l := range stripesWith([]int{5, no}) {
			wantHurt(t, l, 5, nil, api.ErrRange)
			wantHurt(t, l, 0, nil, api.ErrRange)
		}
	}
}

// A disk that is there twice, at each two places of stripes of all lengths, in whichever stripe.
func TestADiskTwice(t *testing.T) {
	for n := 2; n <= mostDisks; n++ {
		for first := range n {
			for second := first + 1; second < n; second++ {
				stripe := all(n)
				stripe[second] = stripe[first]
				for _, l := range stripesWith(stripe) {
					wantFault(t, n, l, api.ErrClash)
				}
			}
		}
	}
	for n := 1; n <= mostDisks; n++ {
		for d := range n {
			wantFault(t, n, [][]int{{d, d}}, api.ErrClash)
			wantFault(t, n, [][]int{nil, append(all(n), d)}, api.ErrClash)
			wantFault(t, n, [][]int{{d, d, d}}, api.ErrClash)
		}
	}
	// In two stripes it is not twice in one.
	wantLoads(t, 2, [][]int{{1}, {1}, {0, 1}, {1, 0}}, []int{2, 4}, api.OK)
}

// A stripe of more than all disks has one of them twice, however long it is; or one that is none, though it stands last.
func TestLongStripes(t *testing.T) {
	long := slices.Repeat(all(mostDisks), 100_000)
	wantTold := func(l [][]int, told api.Errno) {
		t.Helper()
		_, loads := place.Loads(mostDisks, l)
		_, hurt := place.Hurt(l, 3)
		_, peers := place.Peers(mostDisks, l, 3)
		if !isTold(loads, told) || !isTold(hurt, told) || !isTold(peers, told) {
			t.Errorf("errors %v, %v, %v, want %v", loads, hurt, peers, told)
		}
	}
	wantTold([][]int{{0}, long}, api.ErrClash)
	wantTold([][]int{{0}, append(long, mostDisks)}, api.ErrRange)
	wantTold(same(mostStripes, long...), api.ErrClash)
}

// n comes first, then how many stripes there are, then what is wrong with the first stripe that has a fault.
func TestWhichErrorIsTold(t *testing.T) {
	full := same(mostStripes+1, 1, 1)
	wantLoads(t, 0, full, nil, api.ErrRange)
	wantLoads(t, 11, full, nil, api.ErrRange)
	wantPeers(t, 0, full, 0, nil, api.ErrRange)
	wantPeers(t, 11, full, 0, nil, api.ErrRange)
	wantLoads(t, 11, [][]int{{1, 1}}, nil, api.ErrRange)
	wantPeers(t, 11, [][]int{{1, 1}}, 1, nil, api.ErrRange)
	for _, stripe := range [][]int{{1, 1}, {-1}, {10}, {10, 10}} {
		wantFault(t, mostDisks, same(mostStripes+1, stripe...), api.ErrFull)
	}
	// One stripe has a disk that is none, another one has a disk twice.
	for _, no := range noDisks(mostDisks) {
		wantFault(t, mostDisks, [][]int{{3, no}, {1, 1}}, api.ErrRange)
		wantFault(t, mostDisks, [][]int{{1, 1}, {3, no}}, api.ErrClash)
		wantFault(t, mostDisks, [][]int{{0}, {3, no}, nil, {1, 1}}, api.ErrRange)
		wantFault(t, mostDisks, [][]int{{0}, {1, 2, 1}, nil, {no}}, api.ErrClash)
		// One has both: what is named first is told, whichever stands first.
		wantFault(t, mostDisks, [][]int{{no, 1, 1}}, api.ErrRange)
		wantFault(t, mostDisks, [][]int{{1, no, 1}}, api.ErrRange)
		wantFault(t, mostDisks, [][]int{{1, 1, no}}, api.ErrRange)
		wantFault(t, mostDisks, [][]int{{no, no}}, api.ErrRange)
		wantFault(t, mostDisks, [][]int{{2}, {1, 1, no}, {1, 1}}, api.ErrRange)
		wantFault(t, mostDisks, [][]int{{2}, {1, 1}, {1, 1, no}}, api.ErrClash)
	}
	// Of fewer disks one that is none of them, but of as many as there may be, is so of Loads and of Peers alone.
	wantFault(t, 4, [][]int{{1, 1, 4}}, api.ErrRange)
	wantFault(t, 4, [][]int{{1, 1}, {4}}, api.ErrClash)
	wantHurt(t, [][]int{{1, 1, 4}}, 1, nil, api.ErrClash)
	wantHurt(t, [][]int{{4}, {1, 1}}, 1, nil, api.ErrClash)
	wantHurt(t, [][]int{{4}, {1}}, 1, []int{1}, api.OK)
}

// Of Hurt d comes first, whatever is wrong with stripes.
func TestHurtOfNoDisk(t *testing.T) {
	wrong := [][][]int{nil, {{0}}, {{1, 1}}, {{-1}}, {{10}}, same(mostStripes, 0), same(mostStripes+1, 0), same(mostStripes+1, 1, 1)}
	for _, d := range noDisks(mostDisks) {
		for _, l := range wrong {
			wantHurt(t, l, d, nil, api.ErrRange)
		}
	}
	for d := range mostDisks {
		wantHurt(t, [][]int{{1, 1}}, d, nil, api.ErrClash)
		wantHurt(t, [][]int{{10}}, d, nil, api.ErrRange)
		wantHurt(t, same(mostStripes+1, 0), d, nil, api.ErrFull)
	}
}

// Of a disk that no stripe has, of one that each has, and of those that stripes on fewer disks cannot have.
func TestHurt(t *testing.T) {
	for n := 1; n <= mostDisks; n++ {
		for many := range mostStripes + 1 {
			stripes := same(many, all(n)...)
			var each []int
			for at := range many {
				each = append(each, at)
			}
			for d := range mostDisks {
				if d < n {
					wantHurt(t, stripes, d, each, api.OK)
				} else {
					wantHurt(t, stripes, d, nil, api.OK)
				}
			}
			wantHurt(t, stripes, -1, nil, api.ErrRange)
			wantHurt(t, stripes, mostDisks, nil, api.ErrRange)
		}
	}
}

// Of Peers d comes last: behind n, behind how many stripes there are, and behind all that is wrong with them.
func TestPeersOfNoDisk(t *testing.T) {
	for n := 1; n <= mostDisks; n++ {
		for _, d := range noDisks(n) {
			wantPeers(t, n, nil, d, nil, api.ErrRange)
			wantPeers(t, n, [][]int{{0}, all(n)}, d, nil, api.ErrRange)
			wantPeers(t, n, same(mostStripes, 0), d, nil, api.ErrRange)
			wantPeers(t, n, same(mostStripes+1, 0), d, nil, api.ErrFull)
			wantPeers(t, n, [][]int{{0, 0}}, d, nil, api.ErrClash)
			wantPeers(t, n, [][]int{{0}, nil, {0, 0}}, d, nil, api.ErrClash)
			wantPeers(t, n, [][]int{{n}, {0, 0}}, d, nil, api.ErrRange)
			wantPeers(t, 0, same(mostStripes+1, 0), d, nil, api.ErrRange)
		}
	}
}

// Of each disk: -1 and n are none, 0 and n - 1 are; with itself it has nothing, though it has blocks.
func TestPeersOfEachDisk(t *testing.T) {
	for n := 1; n <= mostDisks; n++ {
		// Disk d is in the stripes from d on, so that two have as many together as the last one of both is in.
		var l [][]int
		for d := range n {
			l = append(l, all(d+1))
		}
		for d := range n {
			want := make([]int, n)
			for other := range want {
				if other != d {
					want[other] = n - max(d, other)
				}
			}
			wantPeers(t, n, l, d, want, api.OK)
		}
		wantPeers(t, n, l, -1, nil, api.ErrRange)
		wantPeers(t, n, l, n, nil, api.ErrRange)
	}
}

// Two that are in no stripe together are no peers, though each has blocks.
func TestPeersThatHaveNothingTogether(t *testing.T) {
	l := [][]int{{0, 1}, {2, 3}, {1, 4}, {3}}
	wantPeers(t, 6, l, 0, []int{0, 1, 0, 0, 0, 0}, api.OK)
	wantPeers(t, 6, l, 2, []int{0, 0, 0, 1, 0, 0}, api.OK)
	wantPeers(t, 6, l, 4, []int{0, 1, 0, 0, 0, 0}, api.OK)
	wantPeers(t, 6, l, 5, []int{0, 0, 0, 0, 0, 0}, api.OK)
}

func TestNoSuchArray(t *testing.T) {
	for _, n := range noArrays {
		for _, l := range [][][]int{nil, {nil}, {{0}}, {{0, 1}}, {{1, 1}}, {{n}}, {{-1}}, same(mostStripes+1, 0)} {
			wantLoads(t, n, l, nil, api.ErrRange)
			for _, d := range []int{-1, 0, 1, 9, 10, n - 1, n} {
				wantPeers(t, n, l, d, nil, api.ErrRange)
			}
		}
	}
}

func TestErrorsAreTheNumbersOfThePromise(t *testing.T) {
	_, noPlace := place.Place(1, 2, 0)
	_, noArray := place.Loads(11, nil)
	_, full := place.Loads(1, same(mostStripes+1, 0))
	_, noDisk := place.Loads(1, [][]int{{1}})
	_, twice := place.Loads(2, [][]int{{1, 1}})
	_, noHurt := place.Hurt(nil, 10)
	_, hurtTwice := place.Hurt([][]int{{9, 9}}, 9)
	_, noPeers := place.Peers(1, nil, 1)
	_, fullPeers := place.Peers(1, same(mostStripes+1, 0), 1)
	told := []error{noPlace, noArray, full, noDisk, twice, noHurt, hurtTwice, noPeers, fullPeers}
	for k, want := range []api.Errno{1, 1, 4, 1, 7, 1, 7, 1, 4} {
		if plain.Told(told[k]) != want {
			t.Errorf("told %d of error %d, want %d", plain.Told(told[k]), k, want)
		}
	}
}

// eachStripe calls with each of at most most disks, each from -1 to n.
func eachStripe(n, most int, do func(stripe []int)) {
	var from func(stripe []int)
	from = func(stripe []int) {
		do(stripe)
		if len(stripe) == most {
			return
		}
		for d := -1; d <= n; d++ {
			from(append(slices.Clone(stripe), d))
		}
	}
	from(nil)
}

// All small stripes, right and wrong, one and two of them, answer as the model says.
func TestAllSmallStripes(t *testing.T) {
	for n := 0; n <= 3; n++ {
		count := 0
		eachStripe(n, 3, func(first []int) {
			count++
			for d := -1; d <= n; d++ {
				wantModel(t, n, [][]int{first}, d)
			}
			eachStripe(n, 2, func(second []int) {
				wantModel(t, n, [][]int{first, second}, 0)
				wantModel(t, n, [][]int{second, first}, n)
			})
		})
		if want := 1 + (n + 2) + (n+2)*(n+2) + (n+2)*(n+2)*(n+2); count != want {
			t.Errorf("stripes of %d: %d, want %d", n, count, want)
		}
	}
}

// Stripes of all sizes, now and then wrong, answer as the model says.
func TestManyStripes(t *testing.T) {
	m := &maker{1}
	for range 20_000 {
		n := 1 + m.below(mostDisks)
		l := m.stripes(n, m.below(mostStripes+2))
		if len(l) > 0 && m.below(3) == 0 {
			at := m.below(len(l))
			wrong := slices.Concat([]int{m.of(noDisks(n))}, all(n))
			l[at] = slices.Insert(l[at], m.below(len(l[at])+1), m.of(wrong))
		}
		wantModel(t, n, l, m.below(mostDisks+2)-1)
	}
}

// Loads, Hurt and Peers say the same of the same stripes: who has how many is who is hurt how often, and two are peers of each other.
func TestAnswersGoTogether(t *testing.T) {
	m := &maker{2}
	for range 500 {
		n := 1 + m.below(mostDisks)
		l := m.stripes(n, m.below(mostStripes+1))
		loads, err := place.Loads(n, l)
		if err != nil {
			t.Fatalf("Loads of %d, %v: %v", n, l, err)
		}
		table := make([][]int, n)
		for d := range n {
			hurt, err := place.Hurt(l, d)
			if err != nil || len(hurt) != loads[d] || !slices.IsSorted(hurt) {
				t.Errorf("Hurt of %v, %d: %v, error %v, loads %v", l, d, hurt, err, loads)
			}
			if table[d], err = place.Peers(n, l, d); err != nil {
				t.Fatalf("Peers of %d, %v, %d: %v", n, l, d, err)
			}
			together := 0
			for _, at := range hurt {
				together += len(l[at]) - 1
			}
			for _, count := range table[d] {
				together -= count
			}
			if together != 0 || table[d][d] != 0 {
				t.Errorf("Peers of %d, %v, %d: %v", n, l, d, table[d])
			}
		}
		for a := range n {
			for b := range n {
				if table[a][b] != table[b][a] {
					t.Errorf("%v: %d and %d are peers %d and %d times", l, a, b, table[a][b], table[b][a])
				}
			}
		}
	}
}

// What is placed is right, so that it can be asked for.
func TestWhatIsPlacedCanBeAskedFor(t *testing.T) {
	for n := 1; n <= mostDisks; n++ {
		for wide := 1; wide <= n; wide++ {
			l, err := place.Place(n, wide, mostStripes)
			if err != nil {
				t.Fatalf("Place of %d, %d: %v", n, wide, err)
			}
			for d := range mostDisks {
				wantModel(t, n, l, d)
			}
		}
	}
}

// inMemory lays stripes into longer memory, with what is no disk behind each, and what is no stripe behind all.
func inMemory(l [][]int) [][]int {
	long := make([][]int, 0, len(l)+3)
	for _, stripe := range l {
		long = append(long, append(slices.Clone(stripe), 77, 77, -5)[:len(stripe)])
	}
	return append(long, []int{99}, []int{98, 98}, nil)[:len(l)]
}

// memory tells all of it, also what lies behind each length.
func memory(l [][]int) string {
	out := fmt.Sprint(len(l), cap(l))
	for _, stripe := range l[:cap(l)] {
		out += fmt.Sprint(stripe == nil, len(stripe), cap(stripe), stripe[:cap(stripe)])
	}
	return out
}

// What is handed in stays as it is, and what lies behind its length is neither read nor written, with an error or none.
func TestWhatIsHandedInIsNotChanged(t *testing.T) {
	m := &maker{3}
	lists := [][][]int{nil, {}, {nil}, {{2, 1, 0}}, {{9, 0}, {}, {3}}, {{1, 1}}, {{2, 1, 12}, {1, 1}}, {{-1}}, same(40, 2, 0), same(41, 2, 0)}
	for range 200 {
		lists = append(lists, m.stripes(1+m.below(mostDisks), m.below(mostStripes+2)))
	}
	for _, l := range lists {
		laid := inMemory(l)
		before := memory(laid)
		for n := 0; n <= mostDisks+1; n++ {
			for _, d := range []int{-1, 0, 2, 9, 10} {
				wantModel(t, n, laid, d)
			}
		}
		if after := memory(laid); after != before {
			t.Errorf("%v: memory was %s, is %s", l, before, after)
		}
	}
}

// Stripes that share their memory, one piece of another, are as good as others.
func TestStripesMayShareMemory(t *testing.T) {
	one := []int{4, 2, 0}
	l := [][]int{one, one[:2], one[1:], one[:0], one}
	wantLoads(t, 5, l, []int{3, 0, 4, 0, 3}, api.OK)
	wantHurt(t, l, 0, []int{0, 2, 4}, api.OK)
	wantPeers(t, 5, l, 2, []int{3, 0, 0, 0, 3}, api.OK)
	if !slices.Equal(one, []int{4, 2, 0}) {
		t.Errorf("what was handed in changed: %v", one)
	}
}

// spoil all that a list has, also behind its length.
func spoil(l []int) {
	l = l[:cap(l)]
	for at := range l {
		l[at] = 99
	}
}

// What comes out is the caller's: no stripe shares memory with another one, not even behind its length, and a later call does not see what is done with it.
func TestStripesThatComeOutAreFresh(t *testing.T) {
	for _, wide := range []int{1, 2, 3, 5} {
		want := modelRound(5, wide, 12)
		for k := range 12 {
			got, err := place.Place(5, wide, 12)
			if err != nil {
				t.Fatalf("Place: %v", err)
			}
			again, err := place.Place(5, wide, 12)
			if err != nil {
				t.Fatalf("Place: %v", err)
			}
			spoil(got[k])
			_ = append(got[k], 98)
			for other := range got {
				if other != k && !slices.Equal(got[other], want[other]) {
					t.Errorf("stripe %d of %d: %v, want %v", other, wide, got[other], want[other])
				}
			}
			if !isSame(again, want) {
				t.Errorf("stripes of %d: %v, want %v", wide, again, want)
			}
			wantPlace(t, 5, wide, 12, want, api.OK)
		}
	}
}

// Answers do not share memory with stripes that were handed in, nor with each other.
func TestListsThatComeOutAreFresh(t *testing.T) {
	l := [][]int{{0, 2}, {1}, {2, 1, 0}}
	ask := map[string]func() ([]int, error){
		"Loads": func() ([]int, error) { return place.Loads(3, l) },
		"Hurt":  func() ([]int, error) { return place.Hurt(l, 2) },
		"Peers": func() ([]int, error) { return place.Peers(3, l, 2) },
	}
	want := map[string][]int{"Loads": {2, 2, 2}, "Hurt": {0, 2}, "Peers": {2, 1, 0}}
	for name, call := range ask {
		kept, err := call()
		if err != nil {
			t.Errorf("%s: %v", name, err)
		}
		for range 3 {
			got, err := call()
			if err != nil || !slices.Equal(got, want[name]) {
				t.Errorf("%s: %v, error %v, want %v", name, got, err, want[name])
			}
			spoil(got)
		}
		if !isSame(l, [][]int{{0, 2}, {1}, {2, 1, 0}}) {
			t.Errorf("%s: what was handed in is %v", name, l)
		}
		if !slices.Equal(kept, want[name]) {
			t.Errorf("%s: what came out is %v, want %v", name, kept, want[name])
		}
	}
}

// What was handed in is not kept: it may be changed behind a call, and neither that answer nor the next one is of what was.
func TestWhatIsHandedInIsNotKept(t *testing.T) {
	l := [][]int{{0, 2}, {1}, {2, 1, 0}}
	loads, noLoads := place.Loads(3, l)
	hurt, noHurt := place.Hurt(l, 2)
	peers, noPeers := place.Peers(3, l, 2)
	if noLoads != nil || noHurt != nil || noPeers != nil {
		t.Errorf("errors %v, %v, %v", noLoads, noHurt, noPeers)
	}
	for _, stripe := range l {
		spoil(stripe)
	}
	l[1] = nil
	if !slices.Equal(loads, []int{2, 2, 2}) || !slices.Equal(hurt, []int{0, 2}) || !slices.Equal(peers, []int{2, 1, 0}) {
		t.Errorf("what came out changed: %v, %v, %v", loads, hurt, peers)
	}
	wantFault(t, 3, l, api.ErrRange)
	l[0], l[2] = []int{2}, []int{1, 2}
	wantLoads(t, 3, l, []int{0, 1, 2}, api.OK)
	wantHurt(t, l, 1, []int{2}, api.OK)
	wantPeers(t, 3, l, 1, []int{0, 0, 1}, api.OK)
}

// The same calls are answered the same, whatever was asked, rightly or wrongly, ahead of them.
func TestSameAnswersAgain(t *testing.T) {
	answers := func() (out []string) {
		m := &maker{4}
		for range 500 {
			n, d := m.below(mostDisks+2), m.below(mostDisks+2)-1
			l := m.stripes(1+m.below(mostDisks), m.below(mostStripes+2))
			p, noPlace := place.Place(n, m.below(n+2), m.below(mostStripes+2))
			loads, noLoads := place.Loads(n, copied(l))
			hurt, noHurt := place.Hurt(copied(l), d)
			peers, noPeers := place.Peers(n, copied(l), d)
			out = append(out, fmt.Sprint(p, noPlace, loads, noLoads, hurt, noHurt, peers, noPeers))
		}
		return out
	}
	if first, second := answers(), answers(); !slices.Equal(first, second) {
		t.Errorf("answers differ: %v, %v", first, second)
	}
}
