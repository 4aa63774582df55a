package code_test

import (
	"fmt"
	"math"
	"slices"
	"strings"
	"testing"
	"unsafe"

	"paritymill/api"
	"paritymill/code"
	"paritymill/field"
	"paritymill/plain"
)

// maker makes the same numbers in each run.
type maker struct{ state uint64 }

func (m *maker) below(n int) int {
	m.state = m.state*6364136223846793005 + 1442695040888963407
	return int(m.state>>33) % n
}

func (m *maker) block(size int) string {
	b := make([]byte, size)
	for i := range b {
		b[i] = byte(m.below(256))
	}
	return string(b)
}

func (m *maker) blocks(n, size int) []string {
	out := make([]string, n)
	for i := range out {
		out[i] = m.block(size)
	}
	return out
}

// parts makes data and its parity.
func (m *maker) parts(k, parity, size int) []string {
	data := m.blocks(k, size)
	return slices.Concat(data, parityOf(k, parity, data))
}

// losing makes flags of which that many are set.
func (m *maker) losing(n, lost int) []bool {
	out := make([]bool, n)
	for lost > 0 {
		if i := m.below(n); !out[i] {
			out[i] = true
			lost--
		}
	}
	return out
}

// oneBy is found by trying all, so that it shares no step with the field's own inverse.
func oneBy(e byte) byte {
	for one := range 256 {
		if field.Mul(byte(one), e) == 1 {
			return byte(one)
		}
	}
	panic("0 has no inverse")
}

// parityOf is worked out as the chapter says it, byte by byte, without matrices.
func parityOf(k, m int, data []string) []string {
	out := make([]string, m)
	for i := range out {
		b := make([]byte, len(data[0]))
		for j, block := range data {
			factor := oneBy(byte(k+i) ^ byte(j))
			for at := range b {
				b[at] ^= field.Mul(factor, block[at])
			}
		}
		out[i] = string(b)
	}
	return out
}

// bitsAs has a flag a bit.
func bitsAs(bits, n int) []bool {
	out := make([]bool, n)
	for i := range out {
		out[i] = bits>>i&1 == 1
	}
	return out
}

func count(flags []bool) int {
	n := 0
	for _, flag := range flags {
		if flag {
			n++
		}
	}
	return n
}

// replaced has another block at one place.
func replaced(blocks []string, at int, block string) []string {
	out := slices.Clone(blocks)
	out[at] = block
	return out
}

// eachCode goes over all codes that may be.
func eachCode(do func(k, m int)) {
	for k := 1; k <= 12; k++ {
		for m := 0; k+m <= 12; m++ {
			do(k, m)
		}
	}
}

func wantTold(t *testing.T, what string, err error, want api.Errno) {
	t.Helper()
	if plain.Told(err) != want || err == nil != (want == api.OK) {
		t.Errorf("%s: error %v, want %v", what, err, want)
	}
}

func wantBlocks(t *testing.T, what string, got, want []string) {
	t.Helper()
	if !slices.Equal(got, want) {
		t.Errorf("%s: %q, want %q", what, got, want)
	}
}

func wantEncode(t *testing.T, k, m int, data, want []string, told api.Errno) {
	t.Helper()
	got, err := code.Encode(k, m, data)
	what := fmt.Sprintf("Encode of %d and %d, %q", k, m, data)
	wantTold(t, what, err, told)
	wantBlocks(t, what, got, want)
}

func wantDecode(t *testing.T, k, m int, parts []string, lost []bool, want []string, told api.Errno) {
	t.Helper()
	got, err := code.Decode(k, m, parts, lost)
	what := fmt.Sprintf("Decode of %d and %d, %q, lost %v", k, m, parts, lost)
	wantTold(t, what, err, told)
	wantBlocks(t, what, got, want)
}

func wantRight(t *testing.T, k, m int, parts []string, want bool, told api.Errno) {
	t.Helper()
	got, err := code.Right(k, m, parts)
	what := fmt.Sprintf("Right of %d and %d, %q", k, m, parts)
	wantTold(t, what, err, told)
	if got != want {
		t.Errorf("%s: %v, want %v", what, got, want)
	}
}

func TestCheckOfWhatMayBe(t *testing.T) {
	eachCode(func(k, m int) {
		wantTold(t, fmt.Sprint("Check of ", k, " and ", m), code.Check(k, m), api.OK)
	})
}

// wantNoCode holds that every call tells that there is no such code, whatever else is wrong.
func wantNoCode(t *testing.T, k, m int) {
	t.Helper()
	wantTold(t, fmt.Sprint("Check of ", k, " and ", m), code.Check(k, m), api.ErrRange)
	for _, n := range []int{0, 1, 2, 12, 13, 25} {
		for _, size := range []int{0, 1, 16, 17} {
			blocks := (&maker{state: 1}).blocks(n, size)
			if n > 1 && size == 1 {
				blocks[1] = "of another length"
			}
			wantEncode(t, k, m, blocks, nil, api.ErrRange)
			wantRight(t, k, m, blocks, false, api.ErrRange)
			wantDecode(t, k, m, blocks, make([]bool, n), nil, api.ErrRange)
			wantDecode(t, k, m, blocks, bitsAs(-1, n), nil, api.ErrRange)
			wantDecode(t, k, m, blocks, nil, nil, api.ErrRange)
		}
	}
}

func TestCheckOfWhatMayNotBe(t *testing.T) {
	for k := -2; k <= 14; k++ {
		for m := -2; m <= 14; m++ {
			if k < 1 || m < 0 || k+m > 12 {
				wantNoCode(t, k, m)
			}
		}
	}
}

// Sums that come out among those that may be, and such that go beyond the greatest int.
func TestCheckOfGreatNumbers(t *testing.T) {
	far := []int{math.MinInt, math.MinInt + 1, math.MinInt + 12, -1 << 62, -1 << 32, -256, 256, 1 << 32, 1<<32 + 1, 1 << 62, math.MaxInt - 12, math.MaxInt - 1, math.MaxInt}
	for _, k := range append([]int{1, 6, 12}, far...) {
		for _, m := range far {
			wantNoCode(t, k, m)
			wantNoCode(t, m, k)
		}
	}
	for k := 1; k <= 24; k++ {
		wantNoCode(t, k, -k)
		wantNoCode(t, 1-k, k+1)
	}
}

func TestEncode(t *testing.T) {
	wantEncode(t, 1, 2, []string{"\x01\x02"}, []string{"\x01\x02", "\x8e\x01"}, api.OK)
	wantEncode(t, 1, 3, []string{"\xff\x00\x02"}, []string{"\xff\x00\x02", "\xf1\x00\x01", "\x55\x00\xf5"}, api.OK)
	wantEncode(t, 2, 1, []string{"\x00", "\xbb"}, []string{"\x69"}, api.OK)
	wantEncode(t, 2, 2, []string{"\x01\x00", "\xff\x03"}, []string{"\xdb\x01", "\x05\x8f"}, api.OK)
	wantEncode(t, 5, 2, []string{"\xff", "\x00", "\x03", "\xff", "\x00"}, []string{"\x44", "\x5e"}, api.OK)
}

func TestManyEncoded(t *testing.T) {
	maker := &maker{state: 2}
	eachCode(func(k, m int) {
		for size := range 17 {
			data := maker.blocks(k, size)
			wantEncode(t, k, m, data, parityOf(k, m, data), api.OK)
		}
	})
}

// A block of data that is 1 alone among noughts shows its element of each parity.
func TestEncodeOfEachBlockAlone(t *testing.T) {
	eachCode(func(k, m int) {
		for j := range k {
			data := slices.Repeat([]string{"\x00"}, k)
			data[j] = "\x01"
			got, err := code.Encode(k, m, data)
			wantTold(t, "Encode", err, api.OK)
			if len(got) != m {
				t.Fatalf("Encode of %d and %d has %d blocks", k, m, len(got))
			}
			for i, block := range got {
				if len(block) != 1 || field.Mul(block[0], byte(k+i)^byte(j)) != 1 {
					t.Errorf("code of %d and %d: block %d counts by %q in parity %d", k, m, j, block, i)
				}
			}
		}
	})
}

func TestBlocksOfNoBytes(t *testing.T) {
	eachCode(func(k, m int) {
		data, parts := make([]string, k), make([]string, k+m)
		wantEncode(t, k, m, data, make([]string, m), api.OK)
		wantRight(t, k, m, parts, true, api.OK)
		wantDecode(t, k, m, parts, make([]bool, k+m), data, api.OK)
		wantDecode(t, k, m, parts, (&maker{state: 3}).losing(k+m, m), data, api.OK)
		wantDecode(t, k, m, parts, (&maker{state: 3}).losing(k+m, m+1), nil, api.ErrLost)
	})
}

// How long a block is, is told by bytes.
func TestBlocksAreBytes(t *testing.T) {
	wantEncode(t, 2, 0, []string{"é", "ab"}, nil, api.OK)
	wantEncode(t, 2, 0, []string{"é", "a"}, nil, api.ErrShape)
	wantEncode(t, 1, 1, []string{strings.Repeat("é", 8)}, []string{strings.Repeat("é", 8)}, api.OK)
	wantEncode(t, 1, 1, []string{strings.Repeat("é", 9)}, nil, api.ErrRange)
	wantEncode(t, 1, 1, []string{"\x00\xff\xc3 "}, []string{"\x00\xff\xc3 "}, api.OK)
}

func TestEncodeOfNotSoManyBlocks(t *testing.T) {
	maker := &maker{state: 4}
	eachCode(func(k, m int) {
		for _, n := range []int{0, k - 1, k + 1, k + m, k + m + 1, 12, 13, 300} {
			if n == k {
				continue
			}
			for _, size := range []int{0, 1, 16, 17} {
				wantEncode(t, k, m, maker.blocks(n, size), nil, api.ErrShape)
			}
		}
		wantEncode(t, k, m, nil, nil, api.ErrShape)
	})
}

// lengthsApart are pairs of which two blocks of one list must not be; ErrShape is told ahead of ErrRange.
var lengthsApart = [][2]int{{0, 1}, {1, 0}, {15, 16}, {16, 15}, {16, 17}, {17, 16}, {17, 18}, {0, 17}, {17, 0}, {3, 256}, {0, 256}, {256, 0}}

func TestEncodeOfBlocksNotOfOneLength(t *testing.T) {
	maker := &maker{state: 5}
	eachCode(func(k, m int) {
		for at := range k {
			for _, pair := range lengthsApart {
				if k > 1 {
					wantEncode(t, k, m, replaced(maker.blocks(k, pair[0]), at, maker.block(pair[1])), nil, api.ErrShape)
				}
			}
		}
	})
}

func TestEncodeOfLongBlocks(t *testing.T) {
	maker := &maker{state: 6}
	eachCode(func(k, m int) {
		for _, size := range []int{17, 18, 32, 255, 256, 257, 272} {
			wantEncode(t, k, m, maker.blocks(k, size), nil, api.ErrRange)
		}
	})
	wantEncode(t, 1, 0, maker.blocks(1, 70_000), nil, api.ErrRange)
	wantEncode(t, 2, 1, maker.blocks(2, 1<<16), nil, api.ErrRange)
}

func TestDecode(t *testing.T) {
	parts := []string{"\x01\x00", "\xff\x03", "\xdb\x01", "\x05\x8f"}
	for bits := range 16 {
		lost := bitsAs(bits, 4)
		if count(lost) <= 2 {
			wantDecode(t, 2, 2, parts, lost, parts[:2], api.OK)
		} else {
			wantDecode(t, 2, 2, parts, lost, nil, api.ErrLost)
		}
	}
}

// wantDecodeOf holds that the data comes out where enough is left, whatever stands at lost ones.
func wantDecodeOf(t *testing.T, m *maker, k, parity int, parts []string, lost []bool) {
	t.Helper()
	handed := slices.Clone(parts)
	for i := range handed {
		if lost[i] {
			handed[i] = m.block([]int{0, len(parts[i]), 1, 17, 300}[m.below(5)])
		}
	}
	if count(lost) <= parity {
		wantDecode(t, k, parity, handed, lost, parts[:k], api.OK)
	} else {
		wantDecode(t, k, parity, handed, lost, nil, api.ErrLost)
	}
}

func TestDecodeOfAllThatMayBeLost(t *testing.T) {
	maker := &maker{state: 7}
	eachCode(func(k, m int) {
		if k+m > 8 {
			return
		}
		parts := maker.parts(k, m, 2)
		for bits := range 1 << (k + m) {
			wantDecodeOf(t, maker, k, m, parts, bitsAs(bits, k+m))
		}
	})
}

func TestManyDecoded(t *testing.T) {
	maker := &maker{state: 8}
	eachCode(func(k, m int) {
		for lost := range k + m + 1 {
			for range 3 {
				wantDecodeOf(t, maker, k, m, maker.parts(k, m, maker.below(17)), maker.losing(k+m, lost))
			}
		}
	})
}

// All data lost, or all parity, as far as the code goes.
func TestDecodeOfOneSideAlone(t *testing.T) {
	maker := &maker{state: 9}
	eachCode(func(k, m int) {
		parts := maker.parts(k, m, 16)
		wantDecodeOf(t, maker, k, m, parts, bitsAs(1<<min(k, m)-1, k+m))
		wantDecodeOf(t, maker, k, m, parts, bitsAs((1<<m-1)<<k, k+m))
		wantDecodeOf(t, maker, k, m, parts, bitsAs(1<<m-1, k+m))
	})
}

// The data is that by which the first k that are left are what they are, also where the others do not fit it.
func TestDecodeTakesTheFirst(t *testing.T) {
	maker := &maker{state: 10}
	eachCode(func(k, m int) {
		for range 6 {
			parts, lost := maker.blocks(k+m, 1+maker.below(16)), maker.losing(k+m, maker.below(m+1))
			data, err := code.Decode(k, m, parts, lost)
			wantTold(t, "Decode", err, api.OK)
			if len(data) != k || len(data[0]) != len(parts[0]) {
				t.Fatalf("Decode of %d and %d, %q, lost %v: %q", k, m, parts, lost, data)
			}
			all := slices.Concat(data, parityOf(k, m, data))
			taken := 0
			for i, part := range parts {
				if lost[i] || taken == k {
					continue
				}
				taken++
				if all[i] != part {
					t.Errorf("Decode of %d and %d, %q, lost %v: %q", k, m, parts, lost, data)
				}
			}
		}
	})
}

func TestDecodeOfNotSoMany(t *testing.T) {
	maker := &maker{state: 11}
	eachCode(func(k, m int) {
		n := k + m
		for _, other := range []int{0, n - 1, n + 1, k, 13, 24, 300} {
			if other == n {
				continue
			}
			for _, size := range []int{0, 2, 17} {
				wantDecode(t, k, m, maker.blocks(other, size), make([]bool, n), nil, api.ErrShape)
				wantDecode(t, k, m, maker.blocks(other, size), bitsAs(-1, n), nil, api.ErrShape)
				wantDecode(t, k, m, maker.blocks(n, size), make([]bool, other), nil, api.ErrShape)
				wantDecode(t, k, m, maker.blocks(n, size), bitsAs(-1, other), nil, api.ErrShape)
				wantDecode(t, k, m, maker.blocks(other, size), make([]bool, other), nil, api.ErrShape)
			}
		}
		wantDecode(t, k, m, nil, nil, nil, api.ErrShape)
		wantDecode(t, k, m, maker.blocks(n, 1), nil, nil, api.ErrShape)
	})
}

// ErrLost is named ahead of what is wrong with the blocks that are left.
func TestDecodeTellsTooMuchLostAheadOfBlocks(t *testing.T) {
	maker := &maker{state: 12}
	eachCode(func(k, m int) {
		for lost := m + 1; lost <= k+m; lost++ {
			flags := maker.losing(k+m, lost)
			wantDecode(t, k, m, maker.blocks(k+m, 17), flags, nil, api.ErrLost)
			for at := range k + m {
				wantDecode(t, k, m, replaced(maker.blocks(k+m, 3), at, "four"), flags, nil, api.ErrLost)
			}
		}
	})
}

// All that are left are asked, also those that do not count for the data; those that are lost are not.
func TestDecodeOfBlocksNotOfOneLength(t *testing.T) {
	maker := &maker{state: 13}
	eachCode(func(k, m int) {
		lost := maker.losing(k+m, maker.below(m+1))
		parts := maker.parts(k, m, 3)
		for at := range k + m {
			if lost[at] {
				wantDecode(t, k, m, replaced(parts, at, "four"), lost, parts[:k], api.OK)
			} else if k+m-count(lost) > 1 {
				wantDecode(t, k, m, replaced(parts, at, "four"), lost, nil, api.ErrShape)
				wantDecode(t, k, m, replaced(parts, at, ""), lost, nil, api.ErrShape)
				wantDecode(t, k, m, replaced(parts, at, maker.block(17)), lost, nil, api.ErrShape)
				wantDecode(t, k, m, replaced(maker.blocks(k+m, 17), at, "two"), lost, nil, api.ErrShape)
			}
		}
	})
}

func TestDecodeOfLongBlocks(t *testing.T) {
	maker := &maker{state: 14}
	eachCode(func(k, m int) {
		for lost := range m + 1 {
			flags := maker.losing(k+m, lost)
			for _, size := range []int{17, 18, 256, 272} {
				parts := maker.blocks(k+m, size)
				for i := range parts {
					if flags[i] {
						parts[i] = maker.block(2)
					}
				}
				wantDecode(t, k, m, parts, flags, nil, api.ErrRange)
			}
		}
	})
}

func TestRight(t *testing.T) {
	wantRight(t, 2, 2, []string{"\x01\x00", "\xff\x03", "\xdb\x01", "\x05\x8f"}, true, api.OK)
	wantRight(t, 2, 2, []string{"\x01\x00", "\xff\x03", "\x05\x8f", "\xdb\x01"}, false, api.OK)
	wantRight(t, 2, 2, []string{"\xff\x03", "\x01\x00", "\xdb\x01", "\x05\x8f"}, false, api.OK)
	wantRight(t, 2, 2, []string{"\x00\x00\x01", "\x82\x03\x38", "\x7e\x01\x6d", "\xff\x01\x01"}, false, api.OK)
	wantRight(t, 2, 1, []string{"\x00\x01", "\xff\x03", "\x55\x8f"}, true, api.OK)
}

// One byte that is another, wherever it is, is not right: each block of data counts in each one of parity.
func TestRightOfOneByteThatIsAnother(t *testing.T) {
	maker := &maker{state: 15}
	eachCode(func(k, m int) {
		size := []int{1, 5, 16}[maker.below(3)]
		parts := maker.parts(k, m, size)
		wantRight(t, k, m, parts, true, api.OK)
		for at := range k + m {
			b := []byte(parts[at])
			b[maker.below(size)] ^= byte(1 + maker.below(255))
			wantRight(t, k, m, replaced(parts, at, string(b)), m == 0, api.OK)
		}
	})
}

func TestRightOfNotSoManyParts(t *testing.T) {
	maker := &maker{state: 16}
	eachCode(func(k, m int) {
		n := k + m
		for _, other := range []int{0, k, n - 1, n + 1, 13, 24, 300} {
			if other == n {
				continue
			}
			for _, size := range []int{0, 2, 17} {
				wantRight(t, k, m, maker.blocks(other, size), false, api.ErrShape)
			}
		}
		wantRight(t, k, m, nil, false, api.ErrShape)
	})
}

func TestRightOfBlocksNotOfOneLength(t *testing.T) {
	maker := &maker{state: 17}
	eachCode(func(k, m int) {
		for at := range k + m {
			for _, pair := range lengthsApart {
				if k+m > 1 {
					wantRight(t, k, m, replaced(maker.blocks(k+m, pair[0]), at, maker.block(pair[1])), false, api.ErrShape)
				}
			}
		}
	})
}

func TestRightOfLongBlocks(t *testing.T) {
	maker := &maker{state: 18}
	eachCode(func(k, m int) {
		for _, size := range []int{17, 18, 256, 272} {
			wantRight(t, k, m, maker.parts(k, m, size), false, api.ErrRange)
			wantRight(t, k, m, maker.blocks(k+m, size), false, api.ErrRange)
		}
	})
}

// held is a list with other things behind its length in the same memory, and a copy of all of that.
type held[T comparable] struct{ list, memory, before []T }

func hold[T comparable](list []T, behind ...T) held[T] {
	memory := slices.Concat(list, behind)
	return held[T]{memory[:len(list)], memory, slices.Clone(memory)}
}

func (h held[T]) wantUntouched(t *testing.T, what string) {
	t.Helper()
	if !slices.Equal(h.memory, h.before) {
		t.Errorf("%s: what was handed in became %v, was %v", what, h.memory, h.before)
	}
}

// asked is what the calls are asked, each list with other things behind it.
type asked struct {
	k, m        int
	data, parts held[string]
	lost        held[bool]
}

func ask(k, m int, data, parts []string, lost []bool) asked {
	return asked{k, m, hold(data, "behind", "", "it"), hold(parts, "", "behind", "it"), hold(lost, true, false, true)}
}

func (a asked) wantUntouched(t *testing.T, what string) {
	t.Helper()
	a.data.wantUntouched(t, what)
	a.parts.wantUntouched(t, what)
	a.lost.wantUntouched(t, what)
}

// outcome is all that the package answers.
type outcome struct {
	lists [2][]string
	right bool
	told  [4]api.Errno
}

func (a asked) outcome() outcome {
	parity, first := code.Encode(a.k, a.m, a.data.list)
	data, second := code.Decode(a.k, a.m, a.parts.list, a.lost.list)
	right, third := code.Right(a.k, a.m, a.parts.list)
	fourth := code.Check(a.k, a.m)
	told := [4]api.Errno{plain.Told(first), plain.Told(second), plain.Told(third), plain.Told(fourth)}
	return outcome{[2][]string{parity, data}, right, told}
}

func (o outcome) copied() outcome {
	for i, list := range o.lists {
		o.lists[i] = slices.Clone(list)
	}
	return o
}

func wantOutcome(t *testing.T, what string, got, want outcome) {
	t.Helper()
	for i := range got.lists {
		wantBlocks(t, what, got.lists[i], want.lists[i])
	}
	if got.right != want.right || got.told != want.told {
		t.Errorf("%s: %v, want %v", what, got, want)
	}
}

// manyAsked has what is right, and what is wrong in each way.
func manyAsked() []asked {
	maker := &maker{state: 19}
	out := []asked{ask(1, 0, []string{"a"}, []string{"a"}, []bool{false}), ask(0, 0, nil, nil, nil), ask(3, 2, nil, nil, nil),
		ask(2, 1, []string{"a", "bc"}, []string{"a", "b", "cd"}, make([]bool, 3)), ask(13, 0, maker.blocks(13, 1), nil, make([]bool, 13))}
	eachCode(func(k, m int) {
		size := maker.below(19)
		parts := maker.parts(k, m, size)
		out = append(out, ask(k, m, maker.blocks(k, size), parts, maker.losing(k+m, maker.below(m+1))))
		out = append(out, ask(k, m, parts[:k], parts, maker.losing(k+m, maker.below(k+m+1))))
		out = append(out, ask(k, m, parts, parts[:k], maker.losing(k+m, 0)))
	})
	return out
}

func TestWhatIsHandedInStays(t *testing.T) {
	for _, a := range manyAsked() {
		bare := asked{a.k, a.m, hold(a.data.list), hold(a.parts.list), hold(a.lost.list)}
		want := bare.outcome()
		got := a.outcome()
		a.wantUntouched(t, "by the calls")
		wantOutcome(t, "with other things behind the length", got, want)
		clear(a.data.memory)
		clear(a.parts.memory)
		clear(a.lost.memory)
		wantOutcome(t, "after what was handed in was written into", got, want)
	}
}

func TestWhatComesOutIsFresh(t *testing.T) {
	for _, a := range manyAsked() {
		got := a.outcome()
		want := got.copied()
		clear(got.lists[0][:cap(got.lists[0])])
		wantBlocks(t, "after another list was written into", got.lists[1], want.lists[1])
		clear(got.lists[1][:cap(got.lists[1])])
		a.wantUntouched(t, "after the answers were written into")
		again := a.outcome()
		wantOutcome(t, "after the answers were written into", again, want)
	}
}

// A block that comes out keeps none of those that were handed in. (Texts of one byte have one memory in all of the language.)
func TestBlocksThatComeOutAreFresh(t *testing.T) {
	for _, a := range manyAsked() {
		for _, list := range a.outcome().lists {
			for _, block := range list {
				for _, one := range slices.Concat(a.data.list, a.parts.list) {
					if len(block) > 1 && unsafe.StringData(block) == unsafe.StringData(one) {
						t.Errorf("%q is a block that was handed in", block)
					}
				}
			}
		}
	}
}

// What one call was asked is nothing to the next one.
func TestCallsDoNotHangOnEachOther(t *testing.T) {
	all := manyAsked()
	var first []outcome
	for _, a := range all {
		first = append(first, a.outcome())
	}
	for i := len(all) - 1; i >= 0; i-- {
		wantOutcome(t, "asked again", all[i].outcome(), first[i])
	}
}

func TestNothingAndNilAreTheSame(t *testing.T) {
	eachCode(func(k, m int) {
		none := asked{k: k, m: m}.outcome()
		empty := ask(k, m, []string{}, []string{}, []bool{}).outcome()
		wantOutcome(t, "of empty lists", empty, none)
	})
}

func TestErrorsAreTheNumbersOfThePromise(t *testing.T) {
	_, shape := code.Encode(1, 1, nil)
	_, lost := code.Decode(1, 0, []string{"a"}, []bool{true})
	for i, err := range []error{code.Check(0, 0), shape, lost} {
		if want := []api.Errno{1, 3, 8}[i]; plain.Told(err) != want {
			t.Errorf("told %d, want %d", plain.Told(err), want)
		}
	}
}
