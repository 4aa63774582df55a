package pq_test

import (
	"fmt"
	"math"
	"slices"
	"strings"
	"testing"
	"unsafe"

	"paritymill/api"
	"paritymill/field"
	"paritymill/plain"
	"paritymill/pq"
)

// maker makes the same numbers in each run.
type maker struct{ state uint64 }

func (m *maker) below(n int) int {
	m.state = m.state*6364136223846793005 + 1442695040888963407
	return int(m.state>>33) % n
}

func (m *maker) block(size int) string {
	b := make([]byte, size)
	for i := range b {
		b[i] = byte(m.below(256))
	}
	return string(b)
}

func (m *maker) blocks(n, size int) []string {
	out := make([]string, n)
	for i := range out {
		out[i] = m.block(size)
	}
	return out
}

// parts makes n of them: data, and P and Q of it.
func (m *maker) parts(n, size int) []string {
	data := m.blocks(n-2, size)
	p, q := parityOf(data)
	return append(data, p, q)
}

// losing makes flags of which that many are set.
func (m *maker) losing(n, lost int) []bool {
	out := make([]bool, n)
	for lost > 0 {
		if i := m.below(n); !out[i] {
			out[i] = true
			lost--
		}
	}
	return out
}

// other has some of the bytes of a block, at least one, changed.
func (m *maker) other(block string) string {
	b := []byte(block)
	for range 1 + m.below(len(b)) {
		b[m.below(len(b))] ^= byte(1 + m.below(255))
	}
	if string(b) == block {
		b[0] ^= 1
	}
	return string(b)
}

// powers of 2 are written out, so that they share no step with the program.
var powers = []byte{1, 2, 4, 8, 16, 32, 64, 128, 29, 58}

// parityOf is worked out as the chapter says it, byte by byte.
func parityOf(data []string) (string, string) {
	p, q := make([]byte, len(data[0])), make([]byte, len(data[0]))
	for i, block := range data {
		for at := range p {
			p[at] ^= block[at]
			q[at] ^= field.Mul(powers[i], block[at])
		}
	}
	return string(p), string(q)
}

// isRight tells whether P and Q are those of the data.
func isRight(parts []string) bool {
	k := len(parts) - 2
	p, q := parityOf(parts[:k])
	return parts[k] == p && parts[k+1] == q
}

// bitsAs has a flag a bit.
func bitsAs(bits, n int) []bool {
	out := make([]bool, n)
	for i := range out {
		out[i] = bits>>i&1 == 1
	}
	return out
}

// flagsAt has n flags, of which those are set.
func flagsAt(n int, set ...int) []bool {
	out := make([]bool, n)
	for _, i := range set {
		out[i] = true
	}
	return out
}

func count(flags []bool) int {
	n := 0
	for _, flag := range flags {
		if flag {
			n++
		}
	}
	return n
}

// replaced has another block at one place.
func replaced(blocks []string, at int, block string) []string {
	out := slices.Clone(blocks)
	out[at] = block
	return out
}

// changed has something added to one byte.
func changed(block string, place int, e byte) string {
	b := []byte(block)
	b[place] ^= e
	return string(b)
}

func wantTold(t *testing.T, what string, err error, want api.Errno) {
	t.Helper()
	if plain.Told(err) != want || err == nil != (want == api.OK) {
		t.Errorf("%s: error %v, want %v", what, err, want)
	}
}

func wantBlocks(t *testing.T, what string, got, want []string) {
	t.Helper()
	if !slices.Equal(got, want) {
		t.Errorf("%s: %q, want %q", what, got, want)
	}
}

func wantEncode(t *testing.T, data []string, p, q string, told api.Errno) {
	t.Helper()
	a, b, err := pq.Encode(data)
	what := fmt.Sprintf("Encode of %q", data)
	wantTold(t, what, err, told)
	wantBlocks(t, what, []string{a, b}, []string{p, q})
}

func wantHeal(t *testing.T, parts []string, lost []bool, want []string, told api.Errno) {
	t.Helper()
	got, err := pq.Heal(parts, lost)
	what := fmt.Sprintf("Heal of %q, lost %v", parts, lost)
	wantTold(t, what, err, told)
	wantBlocks(t, what, got, want)
}

func wantDelta(t *testing.T, i int, four [4]string, p, q string, told api.Errno) {
	t.Helper()
	a, b, err := pq.Delta(i, four[0], four[1], four[2], four[3])
	what := fmt.Sprintf("Delta of %d, %q", i, four)
	wantTold(t, what, err, told)
	wantBlocks(t, what, []string{a, b}, []string{p, q})
}

func wantLocate(t *testing.T, parts []string, want int, told api.Errno) {
	t.Helper()
	got, err := pq.Locate(parts)
	what := fmt.Sprintf("Locate of %q", parts)
	wantTold(t, what, err, told)
	if got != want {
		t.Errorf("%s: %d, want %d", what, got, want)
	}
}

// lengthsApart are pairs of which two blocks of one list must not be; ErrShape is told ahead of ErrRange.
var lengthsApart = [][2]int{{0, 1}, {1, 0}, {15, 16}, {16, 15}, {16, 17}, {17, 16}, {17, 18}, {0, 17}, {17, 0}, {3, 256}, {0, 256}, {256, 0}}

// tooLong are sizes above that which may be.
var tooLong = []int{17, 18, 32, 255, 256, 257, 272}

func TestEncode(t *testing.T) {
	wantEncode(t, []string{"\x01\x02\xff"}, "\x01\x02\xff", "\x01\x02\xff", api.OK)
	wantEncode(t, []string{"\x00\x4b", "\xff\x01"}, "\xff\x4a", "\xe3\x49", api.OK)
	wantEncode(t, []string{"\x28\xf4", "\x03\x01"}, "\x2b\xf5", "\x2e\xf6", api.OK)
	wantEncode(t, []string{"\xff\x77\xff", "\xff\xff\xff", "\xff\x11\xbc"}, "\xff\x99\xbc", "\xc7\xd0\xd6", api.OK)
	wantEncode(t, []string{"\x01\x02", "\x7a\x01", "\x22\x47", "\xdb\xff", "\xff\x00"}, "\x7d\xbb", "\xa0\xaa", api.OK)
}

func TestManyEncoded(t *testing.T) {
	maker := &maker{state: 1}
	for k := 1; k <= 10; k++ {
		for size := range 17 {
			for range 5 {
				data := maker.blocks(k, size)
				p, q := parityOf(data)
				wantEncode(t, data, p, q, api.OK)
			}
		}
	}
}

// A block of data that is 1 alone among noughts shows its element of P and of Q.
func TestEncodeOfEachBlockAlone(t *testing.T) {
	for k := 1; k <= 10; k++ {
		for i := range k {
			data := replaced(slices.Repeat([]string{"\x00"}, k), i, "\x01")
			wantEncode(t, data, "\x01", string([]byte{powers[i]}), api.OK)
		}
	}
}

// How long a block is, is told by bytes.
func TestBlocksAreBytes(t *testing.T) {
	wantEncode(t, []string{"é", "é"}, "\x00\x00", "\x58\xe6", api.OK)
	wantEncode(t, []string{"é", "a"}, "", "", api.ErrShape)
	wantEncode(t, []string{strings.Repeat("é", 8)}, strings.Repeat("é", 8), strings.Repeat("é", 8), api.OK)
	wantEncode(t, []string{strings.Repeat("é", 9)}, "", "", api.ErrRange)
	wantHeal(t, []string{"\x00\xff\xc3 ", "", ""}, flagsAt(3, 1, 2), slices.Repeat([]string{"\x00\xff\xc3 "}, 3), api.OK)
	wantLocate(t, []string{"é", "ab", "é"}, 1, api.OK)
}

func TestEncodeOfNotSoManyBlocks(t *testing.T) {
	maker := &maker{state: 2}
	wantEncode(t, nil, "", "", api.ErrRange)
	for _, n := range []int{0, 11, 12, 13, 255, 256, 257, 300} {
		for _, size := range []int{0, 1, 16, 17} {
			data := maker.blocks(n, size)
			wantEncode(t, data, "", "", api.ErrRange)
			if n > 0 {
				wantEncode(t, replaced(data, n-1, "of another length"), "", "", api.ErrRange)
			}
		}
	}
}

func TestEncodeOfBlocksNotOfOneLength(t *testing.T) {
	maker := &maker{state: 3}
	for k := 2; k <= 10; k++ {
		for at := range k {
			for _, pair := range lengthsApart {
				wantEncode(t, replaced(maker.blocks(k, pair[0]), at, maker.block(pair[1])), "", "", api.ErrShape)
			}
		}
	}
}

func TestEncodeOfLongBlocks(t *testing.T) {
	maker := &maker{state: 4}
	for k := 1; k <= 10; k++ {
		for _, size := range tooLong {
			wantEncode(t, maker.blocks(k, size), "", "", api.ErrRange)
		}
	}
	wantEncode(t, maker.blocks(2, 1<<16), "", "", api.ErrRange)
}

func TestHeal(t *testing.T) {
	parts := []string{"\xff\x77\xff", "\xff\xff\xff", "\xff\x11\xbc", "\xff\x99\xbc", "\xc7\xd0\xd6"}
	for bits := range 32 {
		lost := bitsAs(bits, 5)
		if count(lost) <= 2 {
			wantHeal(t, parts, lost, parts, api.OK)
		} else {
			wantHeal(t, parts, lost, nil, api.ErrLost)
		}
	}
}

// spoilt has other things, of all lengths, at what is lost.
func (m *maker) spoilt(parts []string, lost []bool) []string {
	out := slices.Clone(parts)
	for i := range out {
		if lost[i] {
			out[i] = m.block([]int{0, len(parts[i]), 1, 17, 300}[m.below(5)])
		}
	}
	return out
}

func TestHealOfAllThatMayBeLost(t *testing.T) {
	maker := &maker{state: 5}
	for n := 3; n <= 12; n++ {
		for bits := range 1 << n {
			lost := bitsAs(bits, n)
			parts := maker.parts(n, []int{0, 1, 5, 16}[maker.below(4)])
			handed := maker.spoilt(parts, lost)
			if count(lost) <= 2 {
				wantHeal(t, handed, lost, parts, api.OK)
			} else {
				wantHeal(t, handed, lost, nil, api.ErrLost)
			}
		}
	}
}

func TestHealOfEachSize(t *testing.T) {
	maker := &maker{state: 6}
	for n := 3; n <= 12; n++ {
		for size := range 17 {
			for lost := range 3 {
				parts, flags := maker.parts(n, size), maker.losing(n, lost)
				wantHeal(t, maker.spoilt(parts, flags), flags, parts, api.OK)
			}
		}
	}
}

// withParity has data, and P and Q that are those of it.
func withParity(data []string) []string {
	p, q := parityOf(data)
	return append(slices.Clone(data), p, q)
}

// P and Q that are there and are not those of the data are made anew.
func TestHealOfOtherParity(t *testing.T) {
	maker := &maker{state: 7}
	for n := 3; n <= 12; n++ {
		p, q := n-2, n-1
		parts := maker.parts(n, 1+maker.below(16))
		wrongP := replaced(parts, p, maker.other(parts[p]))
		wrongQ := replaced(parts, q, maker.other(parts[q]))
		both := replaced(wrongP, q, wrongQ[q])
		for _, handed := range [][]string{wrongP, wrongQ, both} {
			wantHeal(t, handed, flagsAt(n), parts, api.OK)
			wantHeal(t, handed, flagsAt(n, p), parts, api.OK)
			wantHeal(t, handed, flagsAt(n, q), parts, api.OK)
			wantHeal(t, handed, flagsAt(n, p, q), parts, api.OK)
		}
	}
}

// byP has the data in which one block is what P says: the sum of P and of all others.
func byP(parts []string, at int) []string {
	data := slices.Clone(parts[:len(parts)-2])
	data[at] = parts[len(parts)-2]
	p, _ := parityOf(data)
	data[at] = p
	return data
}

// byQ has the data in which one block is what Q says, found by trying all bytes.
func byQ(parts []string, at int) []string {
	data := slices.Clone(parts[:len(parts)-2])
	size := len(parts[len(parts)-1])
	found := make([]byte, size)
	for e := range 256 {
		data[at] = strings.Repeat(string([]byte{byte(e)}), size)
		_, q := parityOf(data)
		for i := range found {
			if q[i] == parts[len(parts)-1][i] {
				found[i] = byte(e)
			}
		}
	}
	data[at] = string(found)
	return data
}

// Where P and Q are not of one mind it is told by which of them a block of data came.
func TestHealByPAheadOfQ(t *testing.T) {
	maker := &maker{state: 8}
	for n := 3; n <= 12; n++ {
		parts := maker.blocks(n, 1+maker.below(16))
		for at := range n - 2 {
			wantHeal(t, parts, flagsAt(n, at), withParity(byP(parts, at)), api.OK)
			wantHeal(t, parts, flagsAt(n, at, n-1), withParity(byP(parts, at)), api.OK)
			wantHeal(t, parts, flagsAt(n, at, n-2), withParity(byQ(parts, at)), api.OK)
		}
	}
}

// Two blocks of data are such that P and Q are what they are, and nothing else is another.
func TestHealOfTwoByBoth(t *testing.T) {
	maker := &maker{state: 9}
	for n := 4; n <= 12; n++ {
		for b := range n - 2 {
			for a := range b {
				parts := maker.blocks(n, 1+maker.below(16))
				got, err := pq.Heal(parts, flagsAt(n, a, b))
				wantTold(t, "Heal", err, api.OK)
				if len(got) != n || !isRight(got) {
					t.Fatalf("Heal of %q without %d and %d: %q", parts, a, b, got)
				}
				wantBlocks(t, "those that were there", got, replaced(replaced(parts, a, got[a]), b, got[b]))
			}
		}
	}
}

func TestHealOfNotSoManyParts(t *testing.T) {
	maker := &maker{state: 10}
	wantHeal(t, nil, nil, nil, api.ErrRange)
	for _, n := range []int{0, 1, 2, 13, 14, 255, 256, 259, 300} {
		for _, size := range []int{0, 1, 16, 17} {
			parts := maker.blocks(n, size)
			for _, flags := range [][]bool{make([]bool, n), bitsAs(-1, n), nil, make([]bool, n+1), make([]bool, 5)} {
				wantHeal(t, parts, flags, nil, api.ErrRange)
				if n > 0 {
					wantHeal(t, replaced(parts, n-1, "of another length"), flags, nil, api.ErrRange)
				}
			}
		}
	}
}

func TestHealOfNotSoManyFlags(t *testing.T) {
	maker := &maker{state: 11}
	for n := 3; n <= 12; n++ {
		for _, other := range []int{0, 1, 2, n - 2, n - 1, n + 1, 2 * n, 256 + n} {
			for _, size := range []int{0, 3, 17} {
				parts := maker.parts(n, size)
				wantHeal(t, parts, make([]bool, other), nil, api.ErrShape)
				wantHeal(t, parts, bitsAs(-1, other), nil, api.ErrShape)
				wantHeal(t, replaced(parts, 0, "of another length"), bitsAs(-1, other), nil, api.ErrShape)
			}
		}
		wantHeal(t, maker.parts(n, 3), nil, nil, api.ErrShape)
	}
}

// What is wrong with blocks is told behind ErrLost.
func TestHealOfTooMuchThatIsLost(t *testing.T) {
	maker := &maker{state: 12}
	for n := 3; n <= 12; n++ {
		for lost := 3; lost <= n; lost++ {
			flags := maker.losing(n, lost)
			wantHeal(t, maker.blocks(n, 17), flags, nil, api.ErrLost)
			for at := range n {
				wantHeal(t, replaced(maker.blocks(n, 2), at, "other"), flags, nil, api.ErrLost)
			}
		}
	}
}

func TestHealOfBlocksNotOfOneLength(t *testing.T) {
	maker := &maker{state: 13}
	for n := 3; n <= 12; n++ {
		for lost := range 3 {
			flags, parts := maker.losing(n, lost), maker.parts(n, 3)
			for at := range n {
				if flags[at] {
					wantHeal(t, replaced(parts, at, "four"), flags, parts, api.OK)
				} else if n-lost > 1 {
					for _, pair := range lengthsApart {
						wantHeal(t, replaced(maker.blocks(n, pair[0]), at, maker.block(pair[1])), flags, nil, api.ErrShape)
					}
				}
			}
		}
	}
}

// P and Q are blocks too, also where the data is there without them.
func TestHealOfParityNotOfOneLength(t *testing.T) {
	wantHeal(t, []string{"ab", "abc", "ab"}, flagsAt(3), nil, api.ErrShape)
	wantHeal(t, []string{"ab", "ab", "abc"}, flagsAt(3), nil, api.ErrShape)
	wantHeal(t, []string{"ab", "ab", "abc"}, flagsAt(3, 0), nil, api.ErrShape)
	wantHeal(t, []string{"ab", "ab", ""}, flagsAt(3, 1), nil, api.ErrShape)
}

func TestHealOfLongBlocks(t *testing.T) {
	maker := &maker{state: 14}
	for n := 3; n <= 12; n++ {
		for lost := range 3 {
			for _, size := range tooLong {
				flags := maker.losing(n, lost)
				parts := maker.blocks(n, size)
				wantHeal(t, parts, flags, nil, api.ErrRange)
				wantHeal(t, maker.spoilt(parts, flags), flags, nil, api.ErrRange)
			}
		}
	}
}

func TestDelta(t *testing.T) {
	wantDelta(t, 0, [4]string{"\x03", "\x05", "\x0f", "\xf0"}, "\x09", "\xf6", api.OK)
	wantDelta(t, 1, [4]string{"\x00\x01", "\xff\x02", "\x00\x01", "\x01\xff"}, "\xff\x02", "\xe2\xf9", api.OK)
	wantDelta(t, 9, [4]string{"\x00", "\x01", "\x00", "\x00"}, "\x01", "\x3a", api.OK)
	wantDelta(t, 9, [4]string{"\x01", "\x00", "\xff", "\xff"}, "\xfe", "\xc5", api.OK)
	wantDelta(t, 4, [4]string{"", "", "", ""}, "", "", api.OK)
}

// What Delta says is what Encode says of the data as it is now.
func TestDeltaOfEachBlock(t *testing.T) {
	maker := &maker{state: 15}
	for k := 1; k <= 10; k++ {
		for i := range k {
			for size := range 17 {
				data, now := maker.blocks(k, size), maker.block(size)
				p, q := parityOf(data)
				newP, newQ := parityOf(replaced(data, i, now))
				wantDelta(t, i, [4]string{data[i], now, p, q}, newP, newQ, api.OK)
				wantDelta(t, i, [4]string{now, data[i], newP, newQ}, p, q, api.OK)
				wantDelta(t, i, [4]string{now, now, p, q}, p, q, api.OK)
			}
		}
	}
}

// P and Q need not be right ahead: what changes is what is added.
func TestDeltaOfAnyParity(t *testing.T) {
	maker := &maker{state: 16}
	for i := range 10 {
		for size := range 17 {
			was, now, p, q := maker.block(size), maker.block(size), []byte(maker.block(size)), []byte(maker.block(size))
			four := [4]string{was, now, string(p), string(q)}
			for at := range size {
				p[at] ^= was[at] ^ now[at]
				q[at] ^= field.Mul(powers[i], was[at]^now[at])
			}
			wantDelta(t, i, four, string(p), string(q), api.OK)
		}
	}
}

func TestDeltaOfNoSuchBlock(t *testing.T) {
	for _, i := range []int{-1, -2, -255, -256, 10, 11, 12, 255, 256, 265, 1 << 32, -1 << 32, math.MinInt, math.MinInt + 9, math.MaxInt - 1, math.MaxInt} {
		for _, four := range [][4]string{{"a", "b", "c", "d"}, {}, {"a", "", "", ""}, {"", "", "", "abc"}} {
			wantDelta(t, i, four, "", "", api.ErrRange)
		}
	}
}

func TestDeltaOfBlocksNotOfOneLength(t *testing.T) {
	maker := &maker{state: 17}
	for i := range 10 {
		for at := range 4 {
			for _, pair := range lengthsApart {
				four := [4]string(maker.blocks(4, pair[0]))
				four[at] = maker.block(pair[1])
				wantDelta(t, i, four, "", "", api.ErrShape)
			}
		}
	}
}

func TestDeltaOfLongBlocks(t *testing.T) {
	maker := &maker{state: 18}
	for i := range 10 {
		for _, size := range tooLong {
			wantDelta(t, i, [4]string(maker.blocks(4, size)), "", "", api.ErrRange)
		}
	}
}

func TestLocate(t *testing.T) {
	parts := []string{"\xff\x77\xff", "\xff\xff\xff", "\xff\x11\xbc", "\xff\x99\xbc", "\xc7\xd0\xd6"}
	wantLocate(t, parts, -1, api.OK)
	for at := range parts {
		wantLocate(t, replaced(parts, at, "\x01\x02\x03"), at, api.OK)
	}
	wantLocate(t, []string{"\x01", "\x01", "\x02"}, 2, api.OK)
	wantLocate(t, []string{"\x01", "\x02", "\x01"}, 1, api.OK)
	wantLocate(t, []string{"\x02", "\x01", "\x01"}, 0, api.OK)
	wantLocate(t, []string{"\x01", "\x02", "\x04"}, 0, api.ErrLost)
}

func TestLocateOfNothingWrong(t *testing.T) {
	maker := &maker{state: 19}
	for n := 3; n <= 12; n++ {
		for size := range 17 {
			wantLocate(t, maker.parts(n, size), -1, api.OK)
		}
	}
}

func TestLocateOfOnePart(t *testing.T) {
	maker := &maker{state: 20}
	for n := 3; n <= 12; n++ {
		for at := range n {
			for size := 1; size <= 16; size++ {
				parts := maker.parts(n, size)
				wantLocate(t, replaced(parts, at, maker.other(parts[at])), at, api.OK)
			}
		}
	}
}

// Each other byte, in each place of a block, is found.
func TestLocateOfOneByte(t *testing.T) {
	maker := &maker{state: 21}
	for n := 3; n <= 12; n++ {
		parts := maker.parts(n, 16)
		for at := range n {
			for place := range 16 {
				wantLocate(t, replaced(parts, at, changed(parts[at], place, byte(1+maker.below(255)))), at, api.OK)
			}
			for e := 1; e < 256; e++ {
				wantLocate(t, replaced(parts, at, changed(parts[at], 7, byte(e))), at, api.OK)
			}
		}
	}
}

// mends tells whether P and Q are those of the data with some other block there, by trying all bytes in each place.
func mends(parts []string, at int) bool {
	for place := range len(parts[0]) {
		column := make([]string, len(parts))
		for i, part := range parts {
			column[i] = part[place : place+1]
		}
		found := false
		for e := range 256 {
			column[at] = string([]byte{byte(e)})
			found = found || isRight(column)
		}
		if !found {
			return false
		}
	}
	return true
}

// located is worked out as the chapter says it.
func located(parts []string) (int, api.Errno) {
	if isRight(parts) {
		return -1, api.OK
	}
	for at := range parts {
		if mends(parts, at) {
			return at, api.OK
		}
	}
	return 0, api.ErrLost
}

// What is wrong in several parts may look as if it were in one, also in one that is right.
func TestLocateOfMoreThanOnePart(t *testing.T) {
	maker := &maker{state: 22}
	for n := 3; n <= 12; n++ {
		for range 12 {
			parts := maker.parts(n, 1+maker.below(2))
			for range 2 {
				at := maker.below(n)
				parts[at] = maker.other(parts[at])
			}
			want, told := located(parts)
			wantLocate(t, parts, want, told)
		}
	}
}

// What is wrong in one place is of one part alone, so that two places are of one part, or there is none.
func TestLocateOfTwoPlaces(t *testing.T) {
	maker := &maker{state: 23}
	for n := 3; n <= 12; n++ {
		for a := range n {
			for b := range n {
				parts := maker.parts(n, 2)
				parts[a] = changed(parts[a], 0, byte(1+maker.below(255)))
				parts[b] = changed(parts[b], 1, byte(1+maker.below(255)))
				if a == b {
					wantLocate(t, parts, a, api.OK)
				} else {
					wantLocate(t, parts, 0, api.ErrLost)
				}
			}
		}
	}
}

// The same added to two blocks of data leaves P right, and what is added to P and to Q may be that of a block of data.
func TestLocateOfWhatLooksLikeAnother(t *testing.T) {
	for n := 4; n <= 12; n++ {
		noughts := slices.Repeat([]string{"\x00"}, n)
		wantLocate(t, replaced(replaced(noughts, 0, "\x05"), 1, "\x05"), n-1, api.OK)
		for i := range n - 2 {
			wrong := replaced(replaced(noughts, n-2, "\x01"), n-1, string([]byte{powers[i]}))
			wantLocate(t, wrong, i, api.OK)
		}
		if n < 12 {
			wrong := replaced(replaced(noughts, n-2, "\x01"), n-1, string([]byte{powers[n-2]}))
			wantLocate(t, wrong, 0, api.ErrLost)
		}
	}
}

func TestLocateOfNotSoManyParts(t *testing.T) {
	maker := &maker{state: 24}
	wantLocate(t, nil, 0, api.ErrRange)
	for _, n := range []int{0, 1, 2, 13, 14, 255, 256, 259, 300} {
		for _, size := range []int{0, 1, 16, 17} {
			parts := maker.blocks(n, size)
			wantLocate(t, parts, 0, api.ErrRange)
			if n > 0 {
				wantLocate(t, replaced(parts, n-1, "of another length"), 0, api.ErrRange)
			}
		}
	}
}

func TestLocateOfBlocksNotOfOneLength(t *testing.T) {
	maker := &maker{state: 25}
	for n := 3; n <= 12; n++ {
		for at := range n {
			for _, pair := range lengthsApart {
				wantLocate(t, replaced(maker.blocks(n, pair[0]), at, maker.block(pair[1])), 0, api.ErrShape)
			}
		}
	}
}

func TestLocateOfLongBlocks(t *testing.T) {
	maker := &maker{state: 26}
	for n := 3; n <= 12; n++ {
		for _, size := range tooLong {
			wantLocate(t, maker.parts(n, size), 0, api.ErrRange)
			wantLocate(t, maker.blocks(n, size), 0, api.ErrRange)
		}
	}
}

func TestBlocksOfNoBytes(t *testing.T) {
	maker := &maker{state: 27}
	for n := 3; n <= 12; n++ {
		parts := make([]string, n)
		wantEncode(t, parts[:n-2], "", "", api.OK)
		wantLocate(t, parts, -1, api.OK)
		for lost := range 3 {
			wantHeal(t, parts, maker.losing(n, lost), parts, api.OK)
		}
		wantHeal(t, parts, maker.losing(n, 3), nil, api.ErrLost)
	}
}

// held is a list with other things behind its length in the same memory, and a copy of all of that.
type held[T comparable] struct{ list, memory, before []T }

func hold[T comparable](list []T, behind ...T) held[T] {
	memory := slices.Concat(list, behind)
	return held[T]{memory[:len(list)], memory, slices.Clone(memory)}
}

func (h held[T]) wantUntouched(t *testing.T, what string) {
	t.Helper()
	if !slices.Equal(h.memory, h.before) {
		t.Errorf("%s: what was handed in became %v, was %v", what, h.memory, h.before)
	}
}

// asked is what the calls are asked, each list with other things behind it.
type asked struct {
	data, parts held[string]
	lost        held[bool]
	i           int
	four        [4]string
}

func ask(data, parts []string, lost []bool, i int, four [4]string) asked {
	return asked{hold(data, "behind", "", "it"), hold(parts, "", "behind", "it"), hold(lost, true, false, true), i, four}
}

func (a asked) wantUntouched(t *testing.T, what string) {
	t.Helper()
	a.data.wantUntouched(t, what)
	a.parts.wantUntouched(t, what)
	a.lost.wantUntouched(t, what)
}

// outcome is all that the package answers.
type outcome struct {
	healed []string
	four   [4]string
	part   int
	told   [4]api.Errno
}

func (a asked) outcome() outcome {
	p, q, first := pq.Encode(a.data.list)
	healed, second := pq.Heal(a.parts.list, a.lost.list)
	newP, newQ, third := pq.Delta(a.i, a.four[0], a.four[1], a.four[2], a.four[3])
	part, fourth := pq.Locate(a.parts.list)
	told := [4]api.Errno{plain.Told(first), plain.Told(second), plain.Told(third), plain.Told(fourth)}
	return outcome{healed, [4]string{p, q, newP, newQ}, part, told}
}

func wantOutcome(t *testing.T, what string, got, want outcome) {
	t.Helper()
	wantBlocks(t, what, got.healed, want.healed)
	if got.four != want.four || got.part != want.part || got.told != want.told {
		t.Errorf("%s: %v, want %v", what, got, want)
	}
}

// manyAsked has what is right, and what is wrong in each way.
func manyAsked() []asked {
	maker := &maker{state: 28}
	out := []asked{ask(nil, nil, nil, -1, [4]string{}), ask([]string{"a", "bc"}, []string{"a", "b", "cd"}, make([]bool, 3), 0, [4]string{"a"})}
	for n := 1; n <= 14; n++ {
		for range 6 {
			size := maker.below(19)
			parts := maker.blocks(n, size)
			if n >= 3 && n <= 12 && maker.below(3) > 0 {
				parts = maker.parts(n, size)
			}
			flags := maker.losing(n, maker.below(min(n, 4)))
			out = append(out, ask(maker.blocks(n, size), parts, flags, maker.below(12)-1, [4]string(maker.blocks(4, size))))
		}
	}
	return out
}

func TestWhatIsHandedInStays(t *testing.T) {
	for _, a := range manyAsked() {
		bare := asked{hold(a.data.list), hold(a.parts.list), hold(a.lost.list), a.i, a.four}
		want := bare.outcome()
		got := a.outcome()
		a.wantUntouched(t, "by the calls")
		wantOutcome(t, "with other things behind the length", got, want)
		clear(a.data.memory)
		clear(a.parts.memory)
		clear(a.lost.memory)
		wantOutcome(t, "after what was handed in was written into", got, want)
	}
}

func TestWhatComesOutIsFresh(t *testing.T) {
	for _, a := range manyAsked() {
		got := a.outcome()
		want := got
		want.healed = slices.Clone(got.healed)
		clear(got.healed[:cap(got.healed)])
		a.wantUntouched(t, "after the answers were written into")
		wantOutcome(t, "after the answers were written into", a.outcome(), want)
	}
}

// A block that comes out has memory of its own. (Texts of one byte have one memory in all of the language.)
func TestBlocksThatComeOutAreFresh(t *testing.T) {
	for _, a := range manyAsked() {
		got := a.outcome()
		out := slices.Concat(got.healed, got.four[:])
		in := slices.Concat(a.data.list, a.parts.list, a.four[:])
		for i, block := range out {
			for _, one := range slices.Concat(in, out[:i]) {
				if len(block) > 1 && unsafe.StringData(block) == unsafe.StringData(one) {
					t.Errorf("%q has no memory of its own", block)
				}
			}
		}
	}
}

// What one call was asked is nothing to the next one.
func TestCallsDoNotHangOnEachOther(t *testing.T) {
	all := manyAsked()
	var first []outcome
	for _, a := range all {
		first = append(first, a.outcome())
	}
	for i := len(all) - 1; i >= 0; i-- {
		wantOutcome(t, "asked again", all[i].outcome(), first[i])
	}
}

func TestNothingAndNilAreTheSame(t *testing.T) {
	wantOutcome(t, "of empty lists", ask([]string{}, []string{}, []bool{}, 0, [4]string{}).outcome(), asked{}.outcome())
	wantHeal(t, []string{"a", "a", "a"}, nil, nil, api.ErrShape)
	wantHeal(t, []string{"a", "a", "a"}, []bool{}, nil, api.ErrShape)
}

func TestErrorsAreTheNumbersOfThePromise(t *testing.T) {
	_, _, outside := pq.Encode(nil)
	_, shape := pq.Heal([]string{"a", "a", "a"}, nil)
	_, lost := pq.Locate([]string{"\x01", "\x02", "\x04"})
	for i, err := range []error{outside, shape, lost} {
		if want := []api.Errno{1, 3, 8}[i]; plain.Told(err) != want {
			t.Errorf("told %d, want %d", plain.Told(err), want)
		}
	}
}
