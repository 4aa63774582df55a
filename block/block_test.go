package block_test

import (
	"slices"
	"strings"
	"testing"

	"paritymill/api"
	"paritymill/block"
	"paritymill/plain"
)

func wantTold(t *testing.T, what string, err error, want api.Errno) {
	t.Helper()
	if plain.Told(err) != want || err == nil != (want == api.OK) {
		t.Errorf("%s: error %v, want %v", what, err, want)
	}
}

func wantTimes(t *testing.T, rows [][]byte, blocks, want []string) {
	t.Helper()
	if got := block.Times(rows, blocks); !slices.Equal(got, want) {
		t.Errorf("%v times %q: %q, want %q", rows, blocks, got, want)
	}
}

func wantRegain(t *testing.T, parity [][]byte, parts []string, lost []bool, want []string, told api.Errno) {
	t.Helper()
	got, err := block.Regain(parity, parts, lost)
	wantTold(t, "Regain", err, told)
	if !slices.Equal(got, want) {
		t.Errorf("Regain by %v of %q, lost %v: %q, want %q", parity, parts, lost, got, want)
	}
}

func TestCheck(t *testing.T) {
	sixteen, more := strings.Repeat("a", 16), strings.Repeat("a", 17)
	for _, blocks := range [][]string{nil, {}, {""}, {"", ""}, {"a"}, {"ab", "cd", "\x00\xff"}, {sixteen, sixteen}} {
		wantTold(t, "Check", block.Check(blocks), api.OK)
	}
	for _, blocks := range [][]string{{"", "a"}, {"a", ""}, {"ab", "cd", "e"}, {sixteen, more}, {more, sixteen}, {more, more + "a"}} {
		wantTold(t, "Check", block.Check(blocks), api.ErrShape)
	}
	for _, blocks := range [][]string{{more}, {more, more}} {
		wantTold(t, "Check", block.Check(blocks), api.ErrRange)
	}
}

func TestTimes(t *testing.T) {
	wantTimes(t, nil, []string{"ab"}, nil)
	wantTimes(t, [][]byte{{1, 1}, {1, 2}, {0, 0}}, []string{"\x00\x4b", "\xff\x01"}, []string{"\xff\x4a", "\xe3\x49", "\x00\x00"})
	wantTimes(t, [][]byte{{3}}, []string{""}, []string{""})
}

// What has no partner counts as nought.
func TestTimesOfWhatDoesNotGoTogether(t *testing.T) {
	wantTimes(t, [][]byte{{1}, nil}, nil, []string{"", ""})
	wantTimes(t, [][]byte{nil, {1}, {1, 1, 1}}, []string{"\x01", "\x02"}, []string{"\x00", "\x01", "\x03"})
	wantTimes(t, [][]byte{{1, 1, 1}}, []string{"\x01\x02", "\x02", "\x04\x04\x04"}, []string{"\x07\x06"})
}

func TestRegain(t *testing.T) {
	parity := [][]byte{{1, 1}, {1, 2}}
	parts := []string{"\x00\x4b", "\xff\x01", "\xff\x4a", "\xe3\x49"}
	for a := range parts {
		for b := range parts {
			lost := make([]bool, 4)
			lost[a], lost[b] = true, true
			handed := slices.Clone(parts)
			handed[a], handed[b] = "", "lost"
			wantRegain(t, parity, handed, lost, parts[:2], api.OK)
		}
	}
}

// The first ones that are left count, and those behind them do not.
func TestRegainByTheFirst(t *testing.T) {
	parity := [][]byte{{1, 1}, {1, 2}}
	wantRegain(t, parity, []string{"\x01", "", "\x03", "\xff"}, []bool{false, true, false, false}, []string{"\x01", "\x02"}, api.OK)
	wantRegain(t, parity, []string{"\x01", "\x02", "\xff", "\xff"}, make([]bool, 4), []string{"\x01", "\x02"}, api.OK)
}

func TestRegainOfWhatIsWrong(t *testing.T) {
	parity := [][]byte{{1, 1}}
	long := strings.Repeat("a", 17)
	wantRegain(t, parity, nil, nil, nil, api.ErrRange)
	wantRegain(t, parity, make([]string, 1), nil, nil, api.ErrRange)
	wantRegain(t, nil, make([]string, 13), nil, nil, api.ErrRange)
	wantRegain(t, parity, []string{"a", "bc", long}, []bool{true, true, false}, nil, api.ErrLost)
	wantRegain(t, parity, []string{"a", "bc", long}, []bool{true, false, false}, nil, api.ErrShape)
	wantRegain(t, parity, []string{"a", long, long}, []bool{true, false, false}, nil, api.ErrRange)
	wantRegain(t, [][]byte{{1}}, []string{"a", "b", "c"}, []bool{true, false, false}, nil, api.ErrShape)
	wantRegain(t, [][]byte{{0, 1}}, []string{"a", "b", "c"}, []bool{true, false, false}, nil, api.ErrNone)
}

// What nothing is told of is not lost, and of more than there is nothing is asked.
func TestRegainOfOtherFlags(t *testing.T) {
	parity, parts := [][]byte{{1, 1}}, []string{"\x01", "\x02", "\x03"}
	wantRegain(t, parity, parts, nil, parts[:2], api.OK)
	wantRegain(t, parity, parts, []bool{true}, parts[:2], api.OK)
	wantRegain(t, parity, parts, []bool{true, false, false, true, true}, parts[:2], api.OK)
}

func TestWhatIsHandedInStays(t *testing.T) {
	memory := [][]byte{{1, 1}, {1, 2}, {7, 7}}
	parts := []string{"\x00\x4b", "\xff\x01", "\xff\x4a", "\xe3\x49", "behind"}
	lost := []bool{true, false, false, false, true}
	got, err := block.Regain(memory[:2], parts[:4], lost[:4])
	wantTold(t, "Regain", err, api.OK)
	clear(got[:cap(got)])
	sums := block.Times(memory[:2], parts[:2])
	clear(sums[:cap(sums)])
	if !slices.EqualFunc(memory, [][]byte{{1, 1}, {1, 2}, {7, 7}}, slices.Equal) {
		t.Errorf("rows became %v", memory)
	}
	if !slices.Equal(parts, []string{"\x00\x4b", "\xff\x01", "\xff\x4a", "\xe3\x49", "behind"}) {
		t.Errorf("parts became %q", parts)
	}
	if !slices.Equal(lost, []bool{true, false, false, false, true}) {
		t.Errorf("flags became %v", lost)
	}
}
