package reserve_test

import (
	"fmt"
	"math"
	"slices"
	"testing"

	"paritymill/api"
	"paritymill/plain"
	"paritymill/reserve"
)

// below are numbers that are none of hosts, of keys, and of kinds.
var below = []int{0, -1, -2, -4, -9, -10, -256, -1000000, math.MinInt32, math.MinInt + 1, math.MinInt}

// above are so, too; some of them look like others where they are cut to a byte or four.
var above = []int{1000001, 1000002, 1 << 24, 1 << 32, 1<<32 + 1, 1<<32 + 9, math.MaxInt32, 1 << 62, math.MaxInt - 1, math.MaxInt}

var (
	noKeys  = slices.Concat(below, above)
	noHosts = slices.Concat([]int{10, 11, 18, 255, 256, 257, 265, 65537, 1000000}, below, above)
	noKinds = slices.Concat([]int{5, 6, 8, 9, 255, 256, 257, 260, 65537, 1000000}, below, above)
)

// someKeys are keys that a host may have, the least and the greatest among them.
var someKeys = []int{1, 2, 9, 10, 255, 256, 65536, 999999, 1000000}

// maker makes the same numbers in each run.
type maker struct{ state uint64 }

func (m *maker) below(n int) int {
	m.state = m.state*6364136223846793005 + 1442695040888963407
	return int(m.state>>33) % n
}

func (m *maker) of(l []int) int {
	return l[m.below(len(l))]
}

// isTold tells that an error is the one that is wanted, and nil where none is.
func isTold(err error, want api.Errno) bool {
	return plain.Told(err) == want && err == nil == (want == api.OK)
}

func wantRegister(t *testing.T, r *reserve.Reserve, host, key int, told api.Errno) {
	t.Helper()
	if err := r.Register(host, key); !isTold(err, told) {
		t.Errorf("Register of %d, key %d: error %v, want %v", host, key, err, told)
	}
}

func wantLeave(t *testing.T, r *reserve.Reserve, host int, told api.Errno) {
	t.Helper()
	if err := r.Leave(host); !isTold(err, told) {
		t.Errorf("Leave of %d: error %v, want %v", host, err, told)
	}
}

func wantHold(t *testing.T, r *reserve.Reserve, host, key, kind int, told api.Errno) {
	t.Helper()
	if err := r.Hold(host, key, kind); !isTold(err, told) {
		t.Errorf("Hold of %d, key %d, kind %d: error %v, want %v", host, key, kind, err, told)
	}
}

func wantFree(t *testing.T, r *reserve.Reserve, host, key, kind int, told api.Errno) {
	t.Helper()
	if err := r.Free(host, key, kind); !isTold(err, told) {
		t.Errorf("Free of %d, key %d, kind %d: error %v, want %v", host, key, kind, err, told)
	}
}

func wantPreempt(t *testing.T, r *reserve.Reserve, host, key, other, want int, told api.Errno) {
	t.Helper()
	if got, err := r.Preempt(host, key, other); got != want || !isTold(err, told) {
		t.Errorf("Preempt of %d, key %d, other %d: %d, error %v, want %d, %v", host, key, other, got, err, want, told)
	}
}

func wantMay(t *testing.T, r *reserve.Reserve, host int, write, want bool, told api.Errno) {
	t.Helper()
	if got, err := r.May(host, write); got != want || !isTold(err, told) {
		t.Errorf("May of %d, write %v: %v, error %v, want %v, %v", host, write, got, err, want, told)
	}
}

func wantHolder(t *testing.T, r *reserve.Reserve, host, kind int) {
	t.Helper()
	if got, want := r.Holder(), (api.Holder{Host: host, Kind: kind}); got != want {
		t.Errorf("Holder: %v, want %v", got, want)
	}
}

func wantKeys(t *testing.T, r *reserve.Reserve, want ...int) {
	t.Helper()
	if got := r.Keys(); !slices.Equal(got, want) {
		t.Errorf("Keys: %v, want %v", got, want)
	}
}

// withKeys makes one of which hosts 1, 2 and so on have these keys; 0 is none.
func withKeys(t *testing.T, keys ...int) *reserve.Reserve {
	t.Helper()
	r := reserve.New()
	for at, key := range keys {
		if key != 0 {
			wantRegister(t, r, at+1, key, api.OK)
		}
	}
	return r
}

// both does the same with a reserve and its model, and holds one against the other.
type both struct {
	r *reserve.Reserve
	m *model
}

func newBoth(t *testing.T) both {
	t.Helper()
	x := both{reserve.New(), &model{}}
	x.same(t)
	return x
}

// same holds all that can be asked against each other.
func (x both) same(t *testing.T) {
	t.Helper()
	wantKeys(t, x.r, x.m.keys()...)
	wantHolder(t, x.r, x.m.holder().Host, x.m.holder().Kind)
	for host := 0; host <= mostHosts+1; host++ {
		for _, write := range []bool{false, true} {
			want, told := x.m.may(host, write)
			wantMay(t, x.r, host, write, want, told)
		}
	}
}

func (x both) register(t *testing.T, host, key int) {
	t.Helper()
	wantRegister(t, x.r, host, key, x.m.register(host, key))
	x.same(t)
}

func (x both) leave(t *testing.T, host int) {
	t.Helper()
	wantLeave(t, x.r, host, x.m.leave(host))
	x.same(t)
}

func (x both) hold(t *testing.T, host, key, kind int) {
	t.Helper()
	wantHold(t, x.r, host, key, kind, x.m.hold(host, key, kind))
	x.same(t)
}

func (x both) free(t *testing.T, host, key, kind int) {
	t.Helper()
	wantFree(t, x.r, host, key, kind, x.m.free(host, key, kind))
	x.same(t)
}

func (x both) preempt(t *testing.T, host, key, other int) {
	t.Helper()
	want, told := x.m.preempt(host, key, other)
	wantPreempt(t, x.r, host, key, other, want, told)
	x.same(t)
}

func TestBoundsAndKindsAreThoseOfTheChapter(t *testing.T) {
	got := []int{api.MaxHosts, api.WriteAlone, api.Alone, api.WriteMembers, api.Members}
	if want := []int{mostHosts, writeAlone, alone, writeMembers, members}; !slices.Equal(got, want) {
		t.Errorf("MaxHosts and kinds: %v, want %v", got, want)
	}
}

// Where there is none nobody has a key, nobody holds anything, and all may.
func TestNew(t *testing.T) {
	r := reserve.New()
	if r == nil {
		t.Fatal("New: nil")
	}
	wantKeys(t, r, 0, 0, 0, 0, 0, 0, 0, 0, 0)
	wantHolder(t, r, 0, 0)
	for host := 1; host <= mostHosts; host++ {
		wantMay(t, r, host, false, true, api.OK)
		wantMay(t, r, host, true, true, api.OK)
		wantLeave(t, r, host, api.ErrNone)
	}
}

// Written out by hand: what the chapter says, one after another.
func TestByHand(t *testing.T) {
	r := reserve.New()
	wantRegister(t, r, 1, 7, api.OK)
	wantRegister(t, r, 9, 1000000, api.OK)
	wantRegister(t, r, 4, 7, api.OK)
	wantKeys(t, r, 7, 0, 0, 7, 0, 0, 0, 0, 1000000)
	wantHolder(t, r, 0, 0)
	wantHold(t, r, 4, 7, writeAlone, api.OK)
	wantHolder(t, r, 4, writeAlone)
	wantMay(t, r, 4, true, true, api.OK)
	wantMay(t, r, 1, true, false, api.OK)
	wantMay(t, r, 2, false, true, api.OK)
	wantHold(t, r, 1, 7, writeAlone, api.ErrState)
	wantHold(t, r, 4, 7, alone, api.ErrState)
	wantHold(t, r, 4, 7, writeAlone, api.OK)
	wantFree(t, r, 1, 7, writeAlone, api.ErrNone)
	wantFree(t, r, 4, 7, members, api.ErrShape)
	wantPreempt(t, r, 9, 1000000, 7, 2, api.OK)
	wantKeys(t, r, 0, 0, 0, 0, 0, 0, 0, 0, 1000000)
	wantHolder(t, r, 9, writeAlone)
	wantMay(t, r, 4, true, false, api.OK)
	wantMay(t, r, 9, true, true, api.OK)
	wantFree(t, r, 9, 1000000, writeAlone, api.OK)
	wantHolder(t, r, 0, 0)
	wantHold(t, r, 9, 1000000, members, api.OK)
	wantMay(t, r, 4, false, false, api.OK)
	wantRegister(t, r, 4, 3, api.OK)
	wantMay(t, r, 4, false, true, api.OK)
	wantMay(t, r, 4, true, true, api.OK)
	wantLeave(t, r, 9, api.OK)
	wantHolder(t, r, 0, 0)
	wantKeys(t, r, 0, 0, 0, 3, 0, 0, 0, 0, 0)
	wantLeave(t, r, 9, api.ErrNone)
	wantPreempt(t, r, 4, 3, 3, 1, api.OK)
	wantKeys(t, r, 0, 0, 0, 0, 0, 0, 0, 0, 0)
}

// Each host has the key that it registers, and no other host has it for that.
func TestRegister(t *testing.T) {
	for host := 1; host <= mostHosts; host++ {
		for _, key := range someKeys {
			r := reserve.New()
			wantRegister(t, r, host, key, api.OK)
			want := make([]int, mostHosts)
			want[host-1] = key
			wantKeys(t, r, want...)
			wantHolder(t, r, 0, 0)
			wantHold(t, r, host, key, alone, api.OK)
			wantHolder(t, r, host, alone)
		}
	}
}

func TestRegisterOfAllHosts(t *testing.T) {
	r := withKeys(t, 11, 12, 13, 14, 15, 16, 17, 18, 19)
	wantKeys(t, r, 11, 12, 13, 14, 15, 16, 17, 18, 19)
	r = withKeys(t, 5, 5, 5, 5, 5, 5, 5, 5, 5)
	wantKeys(t, r, 5, 5, 5, 5, 5, 5, 5, 5, 5)
}

func TestRegisterOfNoSuchHostOrKey(t *testing.T) {
	r := withKeys(t, 3, 0, 5)
	for _, host := range noHosts {
		for _, key := range slices.Concat(someKeys, noKeys) {
			wantRegister(t, r, host, key, api.ErrRange)
		}
	}
	for host := 1; host <= mostHosts; host++ {
		for _, key := range noKeys {
			wantRegister(t, r, host, key, api.ErrRange)
		}
	}
	wantKeys(t, r, 3, 0, 5, 0, 0, 0, 0, 0, 0)
	wantHolder(t, r, 0, 0)
}

// The key that a host had is its key no more, and the new one stands in its place.
func TestRegisterAgain(t *testing.T) {
	for host := 1; host <= mostHosts; host++ {
		for _, key := range someKeys {
			for _, next := range someKeys {
				x := newBoth(t)
				x.register(t, host, key)
				x.register(t, host, next)
				told := api.ErrDenied
				if key == next {
					told = api.OK
				}
				wantHold(t, x.r, host, key, members, told)
				wantHold(t, x.r, host, next, members, api.OK)
			}
		}
	}
}

// One that holds goes on to hold when it registers again: it has not left.
func TestRegisterAgainWhileHolding(t *testing.T) {
	for kind := writeAlone; kind <= members; kind++ {
		r := withKeys(t, 3, 4)
		wantHold(t, r, 1, 3, kind, api.OK)
		wantRegister(t, r, 1, 8, api.OK)
		wantHolder(t, r, 1, kind)
		wantKeys(t, r, 8, 4, 0, 0, 0, 0, 0, 0, 0)
		wantHold(t, r, 1, 3, kind, api.ErrDenied)
		wantFree(t, r, 1, 3, kind, api.ErrDenied)
		wantHold(t, r, 1, 8, kind, api.OK)
		wantPreempt(t, r, 2, 4, 3, 0, api.ErrNone)
		wantHolder(t, r, 1, kind)
		wantFree(t, r, 1, 8, kind, api.OK)
		wantHolder(t, r, 0, 0)
	}
}

// What one that leaves holds is free, and what another holds is not.
func TestLeave(t *testing.T) {
	for host := 1; host <= mostHosts; host++ {
		for holder := 1; holder <= mostHosts; holder++ {
			for kind := writeAlone; kind <= members; kind++ {
				r := withKeys(t, 1, 2, 3, 4, 5, 6, 7, 8, 9)
				wantHold(t, r, holder, holder, kind, api.OK)
				wantLeave(t, r, host, api.OK)
				want := []int{1, 2, 3, 4, 5, 6, 7, 8, 9}
				want[host-1] = 0
				wantKeys(t, r, want...)
				if host == holder {
					wantHolder(t, r, 0, 0)
				} else {
					wantHolder(t, r, holder, kind)
				}
				wantLeave(t, r, host, api.ErrNone)
				wantHold(t, r, host, host, kind, api.ErrDenied)
				wantKeys(t, r, want...)
			}
		}
	}
}

// One that left and comes again has nothing of what it held.
func TestLeaveAndComeAgain(t *testing.T) {
	r := withKeys(t, 6, 7)
	wantHold(t, r, 1, 6, alone, api.OK)
	wantLeave(t, r, 1, api.OK)
	wantRegister(t, r, 1, 6, api.OK)
	wantHolder(t, r, 0, 0)
	wantFree(t, r, 1, 6, alone, api.ErrNone)
	wantHold(t, r, 2, 7, writeMembers, api.OK)
	wantHold(t, r, 1, 6, alone, api.ErrState)
	wantHolder(t, r, 2, writeMembers)
}

func TestLeaveOfNoSuchHost(t *testing.T) {
	r := withKeys(t, 1, 2, 3, 4, 5, 6, 7, 8, 9)
	wantHold(t, r, 9, 9, members, api.OK)
	for _, host := range noHosts {
		wantLeave(t, r, host, api.ErrRange)
	}
	wantKeys(t, r, 1, 2, 3, 4, 5, 6, 7, 8, 9)
	wantHolder(t, r, 9, members)
}

// A host may hold what it holds already; of another kind, or while another host holds, it may not.
func TestHold(t *testing.T) {
	for holder := 1; holder <= mostHosts; holder++ {
		for kind := writeAlone; kind <= members; kind++ {
			r := withKeys(t, 4, 4, 4, 4, 4, 4, 4, 4, 4)
			wantHold(t, r, holder, 4, kind, api.OK)
			for host := 1; host <= mostHosts; host++ {
				for other := writeAlone; other <= members; other++ {
					told := api.ErrState
					if host == holder && other == kind {
						told = api.OK
					}
					wantHold(t, r, host, 4, other, told)
					wantHolder(t, r, holder, kind)
				}
			}
			wantFree(t, r, holder, 4, kind, api.OK)
			wantHolder(t, r, 0, 0)
			wantFree(t, r, holder, 4, kind, api.ErrNone)
		}
	}
}

// To hold twice is to hold once: one Free is enough.
func TestHoldIsNotCounted(t *testing.T) {
	r := withKeys(t, 2, 3)
	for range 3 {
		wantHold(t, r, 1, 2, writeMembers, api.OK)
	}
	wantFree(t, r, 1, 2, writeMembers, api.OK)
	wantHolder(t, r, 0, 0)
	wantHold(t, r, 2, 3, alone, api.OK)
	wantHolder(t, r, 2, alone)
}

// Nothing that is not the host's key is one, and least of all 0 of a host that has none.
func TestKeysThatAreNotTheHosts(t *testing.T) {
	for host := 1; host <= mostHosts; host++ {
		for _, key := range slices.Concat(someKeys, noKeys) {
			for kind := writeAlone; kind <= members; kind++ {
				r := reserve.New()
				wantHold(t, r, host, key, kind, api.ErrDenied)
				wantFree(t, r, host, key, kind, api.ErrDenied)
				wantPreempt(t, r, host, key, 1, 0, api.ErrDenied)
				wantHolder(t, r, 0, 0)
				wantRegister(t, r, host, 77, api.OK)
				wantRegister(t, r, host%mostHosts+1, 1, api.OK)
				wantHold(t, r, host, key, kind, api.ErrDenied)
				wantHolder(t, r, 0, 0)
				wantHold(t, r, host, 77, kind, api.OK)
				wantFree(t, r, host, key, kind, api.ErrDenied)
				wantPreempt(t, r, host, key, 1, 0, api.ErrDenied)
				wantPreempt(t, r, host, key, 77, 0, api.ErrDenied)
				wantHolder(t, r, host, kind)
			}
		}
	}
}

// Of no such host or kind ErrRange is told, whatever the key is.
func TestHoldAndFreeOfNoSuchHostOrKind(t *testing.T) {
	for _, holds := range []bool{false, true} {
		x := newBoth(t)
		x.register(t, 1, 5)
		x.register(t, 9, 6)
		if holds {
			x.hold(t, 9, 6, members)
		}
		for _, key := range []int{5, 6, 7, 0, -1, 1000001} {
			for _, host := range noHosts {
				for kind := writeAlone; kind <= members; kind++ {
					wantHold(t, x.r, host, key, kind, api.ErrRange)
					wantFree(t, x.r, host, key, kind, api.ErrRange)
				}
			}
			for _, kind := range noKinds {
				for _, host := range []int{0, 1, 2, 9, 10} {
					wantHold(t, x.r, host, key, kind, api.ErrRange)
					wantFree(t, x.r, host, key, kind, api.ErrRange)
				}
			}
		}
		x.same(t)
	}
}

// Who holds frees what it holds, of its kind; whoever else holds none.
func TestFree(t *testing.T) {
	for holder := 1; holder <= mostHosts; holder++ {
		for kind := writeAlone; kind <= members; kind++ {
			r := withKeys(t, 8, 8, 8, 8, 8, 8, 8, 8, 8)
			wantHold(t, r, holder, 8, kind, api.OK)
			for host := 1; host <= mostHosts; host++ {
				for other := writeAlone; other <= members; other++ {
					if host != holder {
						wantFree(t, r, host, 8, other, api.ErrNone)
					} else if other != kind {
						wantFree(t, r, host, 8, other, api.ErrShape)
					}
					wantHolder(t, r, holder, kind)
				}
			}
			wantFree(t, r, holder, 8, kind, api.OK)
			wantHolder(t, r, 0, 0)
			wantKeys(t, r, 8, 8, 8, 8, 8, 8, 8, 8, 8)
			for other := writeAlone; other <= members; other++ {
				wantFree(t, r, holder, 8, other, api.ErrNone)
			}
		}
	}
}

// setKeys gives the hosts of a set one key, and the others another one.
func setKeys(t *testing.T, set, in, out int) *reserve.Reserve {
	t.Helper()
	keys := make([]int, mostHosts)
	for at := range keys {
		keys[at] = out
		if set>>at&1 == 1 {
			keys[at] = in
		}
	}
	return withKeys(t, keys...)
}

// sizeOf a set of hosts.
func sizeOf(set int) (size int) {
	for ; set > 0; set >>= 1 {
		size += set & 1
	}
	return size
}

// All sets of hosts with the key, whoever holds, whoever preempts them, and be it itself among them.
func TestPreemptOfAllSets(t *testing.T) {
	for set := 1; set < 1<<mostHosts; set++ {
		for holder := 1; holder <= mostHosts; holder++ {
			for _, host := range []int{1, 2, 5, 8, 9} {
				r := setKeys(t, set, 30, 40)
				isIn := func(h int) bool { return set>>(h-1)&1 == 1 }
				key := 40
				if isIn(host) {
					key = 30
				}
				kind := 1 + (set+holder+host)%4
				if isIn(holder) {
					wantHold(t, r, holder, 30, kind, api.OK)
				} else {
					wantHold(t, r, holder, 40, kind, api.OK)
				}
				wantPreempt(t, r, host, key, 30, sizeOf(set), api.OK)
				switch {
				case !isIn(holder):
					wantHolder(t, r, holder, kind)
				case isIn(host):
					wantHolder(t, r, 0, 0)
				default:
					wantHolder(t, r, host, kind)
				}
				want := make([]int, mostHosts)
				for at := range want {
					if !isIn(at + 1) {
						want[at] = 40
					}
				}
				wantKeys(t, r, want...)
			}
		}
	}
}

// With no reservation there is none after it, either.
func TestPreemptWithoutAReservation(t *testing.T) {
	for set := 1; set < 1<<mostHosts; set++ {
		r := setKeys(t, set, 30, 40)
		host := 1 + set%mostHosts
		key := r.Keys()[host-1]
		wantPreempt(t, r, host, key, 30, sizeOf(set), api.OK)
		wantHolder(t, r, 0, 0)
	}
}

// One that preempts its own key leaves itself, and then holds nothing; nor does it when it comes again.
func TestPreemptOfTheOwnKey(t *testing.T) {
	for host := 1; host <= mostHosts; host++ {
		for kind := writeAlone; kind <= members; kind++ {
			r := reserve.New()
			wantRegister(t, r, host, 3, api.OK)
			wantHold(t, r, host, 3, kind, api.OK)
			wantPreempt(t, r, host, 3, 3, 1, api.OK)
			wantHolder(t, r, 0, 0)
			wantKeys(t, r, 0, 0, 0, 0, 0, 0, 0, 0, 0)
			wantMay(t, r, host, true, true, api.OK)
			wantPreempt(t, r, host, 3, 3, 0, api.ErrDenied)
			wantRegister(t, r, host, 3, api.OK)
			wantHolder(t, r, 0, 0)
		}
	}
}

// Where another host with the same key holds it, it leaves with the one that asks, and nobody holds it.
func TestPreemptOfTheOwnKeyThatAnotherHoldsBy(t *testing.T) {
	for _, c := range [][2]int{{1, 2}, {2, 1}, {1, 9}, {9, 1}, {4, 6}, {6, 4}} {
		r := reserve.New()
		wantRegister(t, r, c[0], 3, api.OK)
		wantRegister(t, r, c[1], 3, api.OK)
		wantRegister(t, r, 3, 8, api.OK)
		wantHold(t, r, c[1], 3, alone, api.OK)
		wantPreempt(t, r, c[0], 3, 3, 2, api.OK)
		wantHolder(t, r, 0, 0)
		wantKeys(t, r, 0, 0, 8, 0, 0, 0, 0, 0, 0)
		wantHold(t, r, 3, 8, members, api.OK)
	}
}

// What the host that asks holds, or one that does not leave, stays as it is.
func TestPreemptLeavesWhatOthersHold(t *testing.T) {
	for kind := writeAlone; kind <= members; kind++ {
		r := withKeys(t, 1, 2, 3, 2)
		wantHold(t, r, 1, 1, kind, api.OK)
		wantPreempt(t, r, 1, 1, 2, 2, api.OK)
		wantHolder(t, r, 1, kind)
		wantRegister(t, r, 2, 2, api.OK)
		wantPreempt(t, r, 3, 3, 2, 1, api.OK)
		wantHolder(t, r, 1, kind)
		wantKeys(t, r, 1, 0, 3, 0, 0, 0, 0, 0, 0)
		wantPreempt(t, r, 3, 3, 1, 1, api.OK)
		wantHolder(t, r, 3, kind)
		wantHold(t, r, 3, 3, kind, api.OK)
		wantFree(t, r, 3, 3, kind, api.OK)
	}
}

func TestPreemptOfAKeyThatNoHostHas(t *testing.T) {
	for host := 1; host <= mostHosts; host++ {
		r := reserve.New()
		wantRegister(t, r, host, 500, api.OK)
		wantHold(t, r, host, 500, alone, api.OK)
		for _, other := range someKeys {
			wantPreempt(t, r, host, 500, other, 0, api.ErrNone)
		}
		wantHolder(t, r, host, alone)
		// A key that was another's, and is no more, is nobody's.
		next := host%mostHosts + 1
		wantRegister(t, r, next, 600, api.OK)
		wantRegister(t, r, next, 601, api.OK)
		wantPreempt(t, r, host, 500, 600, 0, api.ErrNone)
		wantLeave(t, r, next, api.OK)
		wantPreempt(t, r, host, 500, 601, 0, api.ErrNone)
		wantHolder(t, r, host, alone)
	}
}

func TestPreemptAtTheEdgesOfKeys(t *testing.T) {
	for _, other := range []int{1, 1000000} {
		r := withKeys(t, 1000000, 1, 1000000, 1)
		wantHold(t, r, 4, 1, writeMembers, api.OK)
		host, key := 1, 1000000
		if other == 1000000 {
			host, key = 2, 1
		}
		wantPreempt(t, r, host, key, other, 2, api.OK)
	}
	r := withKeys(t, 1000000, 1)
	for _, key := range []int{1, 1000000, 0, 7, -1, 1000001} {
		for _, other := range noKeys {
			for host := 0; host <= mostHosts+1; host++ {
				wantPreempt(t, r, host, key, other, 0, api.ErrRange)
			}
		}
		for _, host := range noHosts {
			for _, other := range someKeys {
				wantPreempt(t, r, host, key, other, 0, api.ErrRange)
			}
		}
	}
	wantKeys(t, r, 1000000, 1, 0, 0, 0, 0, 0, 0, 0)
}

// Each kind, for reading and for writing: who holds it, who has a key, and who has none.
func TestMay(t *testing.T) {
	for _, c := range []struct {
		kind                                               int
		holderReads, holderWrites                          bool
		memberReads, memberWrites, otherReads, otherWrites bool
	}{
		{writeAlone, true, true, true, false, true, false},
		{alone, true, true, false, false, false, false},
		{writeMembers, true, true, true, true, true, false},
		{members, true, true, true, true, false, false},
	} {
		for holder := 1; holder <= mostHosts; holder++ {
			for set := range 1 << mostHosts {
				set |= 1 << (holder - 1)
				r := reserve.New()
				for host := 1; host <= mostHosts; host++ {
					if set>>(host-1)&1 == 1 {
						wantRegister(t, r, host, 10+host%2, api.OK)
					}
				}
				wantHold(t, r, holder, 10+holder%2, c.kind, api.OK)
				for host := 1; host <= mostHosts; host++ {
					reads, writes := c.otherReads, c.otherWrites
					if host == holder {
						reads, writes = c.holderReads, c.holderWrites
					} else if set>>(host-1)&1 == 1 {
						reads, writes = c.memberReads, c.memberWrites
					}
					wantMay(t, r, host, false, reads, api.OK)
					wantMay(t, r, host, true, writes, api.OK)
				}
			}
		}
	}
}

// With no reservation all may, be there keys or not, and be it that one was there.
func TestMayWithoutAReservation(t *testing.T) {
	wantAll := func(r *reserve.Reserve) {
		t.Helper()
		wantHolder(t, r, 0, 0)
		for host := 1; host <= mostHosts; host++ {
			wantMay(t, r, host, false, true, api.OK)
			wantMay(t, r, host, true, true, api.OK)
		}
	}
	wantAll(reserve.New())
	for kind := writeAlone; kind <= members; kind++ {
		r := withKeys(t, 1, 0, 1, 4)
		wantAll(r)
		wantHold(t, r, 4, 4, kind, api.OK)
		wantMay(t, r, 2, true, false, api.OK)
		wantFree(t, r, 4, 4, kind, api.OK)
		wantAll(r)
		wantHold(t, r, 3, 1, kind, api.OK)
		wantMay(t, r, 2, true, false, api.OK)
		wantLeave(t, r, 3, api.OK)
		wantAll(r)
		wantHold(t, r, 1, 1, kind, api.OK)
		wantMay(t, r, 2, true, false, api.OK)
		wantPreempt(t, r, 1, 1, 1, 1, api.OK)
		wantAll(r)
	}
}

func TestMayOfNoSuchHost(t *testing.T) {
	for kind := 0; kind <= members; kind++ {
		r := withKeys(t, 1)
		if kind > 0 {
			wantHold(t, r, 1, 1, kind, api.OK)
		}
		for _, host := range noHosts {
			wantMay(t, r, host, false, false, api.ErrRange)
			wantMay(t, r, host, true, false, api.ErrRange)
		}
		wantHolder(t, r, min(kind, 1), kind)
	}
}

// Where several errors apply the one that the chapter names first is told.
func TestWhichErrorIsTold(t *testing.T) {
	r := withKeys(t, 5, 6, 6)
	wantHold(t, r, 2, 6, alone, api.OK)
	// ErrRange, though the key is not the host's, and another holds.
	wantHold(t, r, 10, 6, alone, api.ErrRange)
	wantHold(t, r, 1, 6, 5, api.ErrRange)
	wantHold(t, r, 1, 5, 0, api.ErrRange)
	// ErrDenied, though another holds, or it holds one of another kind.
	wantHold(t, r, 1, 6, alone, api.ErrDenied)
	wantHold(t, r, 2, 5, members, api.ErrDenied)
	wantHold(t, r, 4, 0, alone, api.ErrDenied)
	// ErrRange, though the key is not the host's, it holds none, and what there is is of another kind.
	wantFree(t, r, 0, 9, members, api.ErrRange)
	wantFree(t, r, 1, 9, 5, api.ErrRange)
	wantFree(t, r, 2, 6, 0, api.ErrRange)
	// ErrDenied, though it holds none, or one of another kind.
	wantFree(t, r, 1, 6, members, api.ErrDenied)
	wantFree(t, r, 2, 5, members, api.ErrDenied)
	// ErrNone, though what another holds is of another kind.
	wantFree(t, r, 3, 6, members, api.ErrNone)
	wantFree(t, r, 2, 6, members, api.ErrShape)
	// ErrRange, though the key is not the host's; ErrDenied, though no host has that key.
	wantPreempt(t, r, 10, 9, 6, 0, api.ErrRange)
	wantPreempt(t, r, 1, 9, 0, 0, api.ErrRange)
	wantPreempt(t, r, 1, 9, 99, 0, api.ErrDenied)
	wantPreempt(t, r, 1, 99, 99, 0, api.ErrDenied)
	wantPreempt(t, r, 1, 5, 99, 0, api.ErrNone)
	// ErrRange, though there is nobody that could have a key.
	wantLeave(t, r, 10, api.ErrRange)
	wantLeave(t, r, 4, api.ErrNone)
	wantKeys(t, r, 5, 6, 6, 0, 0, 0, 0, 0, 0)
	wantHolder(t, r, 2, alone)
}

func TestErrorsAreTheNumbersOfThePromise(t *testing.T) {
	r := withKeys(t, 5, 6)
	wantHold(t, r, 1, 5, alone, api.OK)
	_, noOther := r.Preempt(1, 5, 0)
	_, notMine := r.Preempt(1, 6, 6)
	_, nobody := r.Preempt(1, 5, 7)
	_, noHost := r.May(10, true)
	told := []error{
		r.Register(10, 1), r.Leave(0), r.Leave(3), r.Hold(1, 5, 5), r.Hold(1, 6, 2), r.Hold(2, 6, 2), r.Hold(1, 5, 1),
		r.Free(0, 5, 2), r.Free(1, 6, 2), r.Free(2, 6, 2), r.Free(1, 5, 1), noOther, notMine, nobody, noHost,
	}
	for k, want := range []api.Errno{1, 1, 5, 1, 9, 6, 6, 1, 9, 5, 3, 1, 9, 5, 1} {
		if plain.Told(told[k]) != want {
			t.Errorf("told %d of error %d, want %d", plain.Told(told[k]), k, want)
		}
	}
}

// eachState calls with all reserves that some hosts can have by few keys, each made anew.
func eachState(t *testing.T, hosts, keys []int, do func(made func() both)) {
	t.Helper()
	states := 1
	for range hosts {
		states *= len(keys) + 1
	}
	for state := range states {
		for at := -1; at < len(hosts); at++ {
			for kind := writeAlone; kind <= members; kind++ {
				made := func() both {
					x := both{reserve.New(), &model{}}
					left := state
					for k, host := range hosts {
						if pick := left % (len(keys) + 1); pick > 0 {
							key := keys[pick-1]
							wantRegister(t, x.r, host, key, x.m.register(host, key))
							if k == at {
								wantHold(t, x.r, host, key, kind, x.m.hold(host, key, kind))
							}
						}
						left /= len(keys) + 1
					}
					return x
				}
				// Who has no key holds nothing, so that the kind does not matter.
				if made().m.holder().Kind == 0 && (at != -1 || kind > writeAlone) {
					continue
				}
				do(made)
			}
		}
	}
}

// From each state each call, right and wrong, answers and leaves what the model says.
func TestEachCallInEachState(t *testing.T) {
	hosts, keys := []int{1, 2, 9}, []int{1, 1000000}
	anyHosts, anyKeys, anyKinds := []int{0, 1, 2, 9, 10}, []int{0, 1, 2, 1000000, 1000001}, []int{0, 1, 2, 3, 4, 5}
	states := 0
	eachState(t, hosts, keys, func(made func() both) {
		states++
		for _, host := range anyHosts {
			made().leave(t, host)
			for _, key := range anyKeys {
				made().register(t, host, key)
				for _, other := range anyKeys {
					made().preempt(t, host, key, other)
				}
				for _, kind := range anyKinds {
					made().hold(t, host, key, kind)
					made().free(t, host, key, kind)
				}
			}
		}
	})
	// 27 without a holder, and of each of 3 hosts 4 kinds by each of 2 keys with 9 of the other two.
	if want := 27 + 3*4*2*9; states != want {
		t.Errorf("states: %d, want %d", states, want)
	}
}

// wrongCalls are all refused, as the model has it.
func (x both) wrongCalls(t *testing.T, m *maker) {
	t.Helper()
	host, key := m.of(noHosts), m.of(noKeys)
	wantRegister(t, x.r, host, 1, api.ErrRange)
	wantRegister(t, x.r, 1, key, api.ErrRange)
	wantLeave(t, x.r, host, api.ErrRange)
	wantMay(t, x.r, host, true, false, api.ErrRange)
	for at, has := range x.m.keys() {
		if has == 0 {
			wantLeave(t, x.r, at+1, api.ErrNone)
		}
		wantHold(t, x.r, host, has, alone, api.ErrRange)
		wantHold(t, x.r, at+1, has, m.of(noKinds), api.ErrRange)
		wantHold(t, x.r, at+1, key, members, api.ErrDenied)
		wantFree(t, x.r, host, has, alone, api.ErrRange)
		wantFree(t, x.r, at+1, has, m.of(noKinds), api.ErrRange)
		wantFree(t, x.r, at+1, key, members, api.ErrDenied)
		wantPreempt(t, x.r, host, has, 1, 0, api.ErrRange)
		wantPreempt(t, x.r, at+1, has, key, 0, api.ErrRange)
		wantPreempt(t, x.r, at+1, key, 1, 0, api.ErrDenied)
		if has != 0 {
			wantPreempt(t, x.r, at+1, has, 123456, 0, api.ErrNone)
		}
	}
}

// With an error nothing is changed: a reserve that was asked wrongly goes on as its model, which was not.
func TestNothingIsChangedWithAnError(t *testing.T) {
	m := &maker{1}
	for range 100 {
		x := newBoth(t)
		for range 40 {
			x.anyStep(t, m)
			x.wrongCalls(t, m)
			x.same(t)
		}
	}
}

// Long rows of calls of all hosts, right and wrong, answer as the model says, and leave what it says.
func TestManySteps(t *testing.T) {
	m := &maker{2}
	for range 300 {
		x := newBoth(t)
		for range 200 {
			x.anyStep(t, m)
		}
	}
}

// anyStep takes few keys, so that hosts share them, and mostly the host's own, so that much is taken.
func (x both) anyStep(t *testing.T, m *maker) {
	t.Helper()
	host, kind := m.below(mostHosts+2), m.below(members+2)
	keys := []int{1, 2, 3, 1000000}
	key, other := m.of(keys), m.of(keys)
	if at := x.m.find(host); at != -1 && m.below(4) > 0 {
		key = x.m.list[at].key
	}
	if holder := x.m.holder(); holder.Host == host && m.below(2) == 0 {
		kind = holder.Kind
	}
	switch m.below(16) {
	case 0:
		x.register(t, host, m.of([]int{0, 1000001, -1}))
	case 1, 2, 3, 4, 5, 6:
		x.register(t, host, other)
	case 7:
		x.leave(t, host)
	case 8, 9, 10, 11:
		x.hold(t, host, key, kind)
	case 12, 13:
		x.free(t, host, key, kind)
	case 14:
		x.preempt(t, host, key, m.of([]int{0, 4, 1000001}))
	default:
		x.preempt(t, host, key, other)
	}
}

// To ask changes nothing.
func TestWhatAsksChangesNothing(t *testing.T) {
	m := &maker{3}
	for range 50 {
		x := newBoth(t)
		for range 40 {
			x.anyStep(t, m)
			for range 3 {
				x.same(t)
			}
		}
	}
}

// Two reserves have nothing in common.
func TestReservesAreApart(t *testing.T) {
	a, b := reserve.New(), reserve.New()
	wantRegister(t, a, 1, 5, api.OK)
	wantHold(t, a, 1, 5, alone, api.OK)
	wantKeys(t, b, 0, 0, 0, 0, 0, 0, 0, 0, 0)
	wantHolder(t, b, 0, 0)
	wantMay(t, b, 2, true, true, api.OK)
	wantRegister(t, b, 2, 5, api.OK)
	wantHold(t, b, 2, 5, members, api.OK)
	wantPreempt(t, b, 2, 5, 5, 1, api.OK)
	wantKeys(t, a, 5, 0, 0, 0, 0, 0, 0, 0, 0)
	wantHolder(t, a, 1, alone)
}

// Lists that come out are the caller's: they stay as they are, and what is done with them reaches nobody.
func TestKeysThatComeOutAreFresh(t *testing.T) {
	r := withKeys(t, 1, 2, 3, 4, 5, 6, 7, 8, 9)
	want := []int{1, 2, 3, 4, 5, 6, 7, 8, 9}
	kept := r.Keys()
	for range 3 {
		l := r.Keys()
		l = l[:cap(l)]
		for at := range l {
			l[at] = 99
		}
		wantKeys(t, r, want...)
	}
	wantHold(t, r, 1, 99, alone, api.ErrDenied)
	wantRegister(t, r, 1, 100, api.OK)
	wantLeave(t, r, 2, api.OK)
	if !slices.Equal(kept, want) {
		t.Errorf("what came out changed: %v, want %v", kept, want)
	}
	// Answers that grow behind their length do not reach each other.
	first, second := r.Keys(), r.Keys()
	first, second = append(first, 8), append(second, 9)
	first[0] = 7
	if first[9] != 8 || second[9] != 9 || second[0] != 100 {
		t.Errorf("answers share memory: %v, %v", first, second)
	}
	wantKeys(t, r, 100, 0, 3, 4, 5, 6, 7, 8, 9)
}

// The Holder that came out is the caller's, too.
func TestHolderThatComesOutIsFresh(t *testing.T) {
	r := withKeys(t, 1, 2)
	none := r.Holder()
	wantHold(t, r, 2, 2, writeMembers, api.OK)
	held := r.Holder()
	held.Host = 1
	wantHolder(t, r, 2, writeMembers)
	if (none != api.Holder{}) {
		t.Errorf("what came out changed: %v", none)
	}
}

// The same calls on another reserve are answered the same.
func TestSameAnswersAgain(t *testing.T) {
	played := func() (out []string) {
		m := &maker{4}
		r := reserve.New()
		for range 500 {
			host, key, kind := m.below(11), m.below(4), m.below(6)
			switch m.below(5) {
			case 0, 1:
				out = append(out, fmt.Sprint(plain.Told(r.Register(host, key))))
			case 2:
				out = append(out, fmt.Sprint(plain.Told(r.Hold(host, key, kind))))
			case 3:
				out = append(out, fmt.Sprint(plain.Told(r.Free(host, key, kind))))
			case 4:
				n, err := r.Preempt(host, key, 1+m.below(3))
				out = append(out, fmt.Sprint(n, plain.Told(err)))
			}
			may, err := r.May(host, kind%2 == 0)
			out = append(out, fmt.Sprint(may, plain.Told(err), r.Holder(), r.Keys()))
		}
		return out
	}
	if first, second := played(), played(); !slices.Equal(first, second) {
		t.Errorf("answers differ: %v, %v", first, second)
	}
}
