package wire_test

import (
	"fmt"
	"math"
	"slices"
	"strings"
	"testing"
	"unsafe"

	"paritymill/api"
	"paritymill/plain"
	"paritymill/wire"
)

// below are numbers that are none of rows and of places.
var below = []int{-1, -2, -19, -20, -255, -256, -65521, -65536, math.MinInt32, -1 << 32, math.MinInt + 1, math.MinInt}

// noRows are none; some of them look like others where they are cut to a byte or four.
var noRows = append([]int{20, 21, 40, 255, 256, 257, 275, 276, 65536, 1 << 32, 1<<32 + 1, math.MaxInt32, 1 << 62, math.MaxInt - 1, math.MaxInt}, below...)

// longs are sizes that no part has.
var longs = []int{17, 18, 32, 255, 256, 257, 272, 273, 65536, 65540}

// noPlaces are none of bytes, if there are count of them.
func noPlaces(count int) []int {
	return append([]int{count, count + 1, count + 9, count + 256, 65536, 1 << 32, 1<<32 + 1, math.MaxInt32, 1 << 62, math.MaxInt - 1, math.MaxInt}, below...)
}

// maker makes the same numbers in each run.
type maker struct{ state uint64 }

func (m *maker) below(n int) int {
	m.state = m.state*6364136223846793005 + 1442695040888963407
	return int(m.state>>33) % n
}

func (m *maker) block(size int) string {
	b := make([]byte, size)
	for i := range b {
		b[i] = byte(m.below(256))
	}
	return string(b)
}

func (m *maker) parts(count, size int) (out []string) {
	for range count {
		out = append(out, m.block(size))
	}
	return out
}

// packed bytes of any row, of so many parts of a size.
func (m *maker) packed(count, size int) string {
	b, _ := modelPack(m.below(mostRows), m.parts(count, size))
	return b
}

// any packed bytes.
func (m *maker) any() string {
	return m.packed(m.below(mostParts+1), m.below(mostSize+1))
}

// bytes are written as numbers.
func bytes(numbers ...byte) string {
	return string(numbers)
}

// noughts so many.
func noughts(size int) string {
	return strings.Repeat("\x00", size)
}

// same part, so many times.
func same(count int, part string) []string {
	return slices.Repeat([]string{part}, count)
}

// without the byte at a place.
func without(b string, at int) string {
	return b[:at] + b[at+1:]
}

// inserted has one byte more, ahead of a place.
func inserted(b string, at int, one byte) string {
	return b[:at] + string([]byte{one}) + b[at:]
}

// isTold tells that an error is the one that is wanted, and nil where none is.
func isTold(err error, want api.Errno) bool {
	return plain.Told(err) == want && err == nil == (want == api.OK)
}

func wantSum(t *testing.T, b string, want int) {
	t.Helper()
	if got := wire.Sum(b); got != want {
		t.Errorf("Sum of %d bytes, %.50q: %d, want %d", len(b), b, got, want)
	}
}

func wantPack(t *testing.T, row int, parts []string, want string, told api.Errno) {
	t.Helper()
	if got, err := wire.Pack(row, parts); got != want || !isTold(err, told) {
		t.Errorf("Pack of %d, %.300q: %q, error %v, want %q, %v", row, parts, got, err, want, told)
	}
}

func wantUnpack(t *testing.T, b string, row int, parts []string, told api.Errno) {
	t.Helper()
	if r, p, err := wire.Unpack(b); r != row || !slices.Equal(p, parts) || !isTold(err, told) {
		t.Errorf("Unpack of %.300q: %d, %q, error %v, want %d, %q, %v", b, r, p, err, row, parts, told)
	}
}

func wantNoUnpack(t *testing.T, b string) {
	t.Helper()
	wantUnpack(t, b, 0, nil, api.ErrSyntax)
}

func wantMend(t *testing.T, b string, at int, want string, told api.Errno) {
	t.Helper()
	if got, err := wire.Mend(b, at); got != want || !isTold(err, told) {
		t.Errorf("Mend of %.300q at %d: %q, error %v, want %q, %v", b, at, got, err, want, told)
	}
}

func wantModelPack(t *testing.T, row int, parts []string) {
	t.Helper()
	b, told := modelPack(row, parts)
	wantPack(t, row, parts, b, told)
}

func wantModelUnpack(t *testing.T, b string) {
	t.Helper()
	row, parts, told := modelUnpack(b)
	wantUnpack(t, b, row, parts, told)
}

func wantModelMend(t *testing.T, b string, at int) {
	t.Helper()
	mended, told := modelMend(b, at)
	wantMend(t, b, at, mended, told)
}

func TestBoundsAreThoseOfTheChapter(t *testing.T) {
	got := []int{api.MaxRows, api.MaxParts, api.MaxSize}
	if want := []int{mostRows, mostParts, mostSize}; !slices.Equal(got, want) {
		t.Errorf("bounds: %v, want %v", got, want)
	}
}

func TestSumByHand(t *testing.T) {
	wantSum(t, "", 0)
	wantSum(t, "\x00", 0)
	wantSum(t, "\x01", 1)
	wantSum(t, "\xff", 255)
	wantSum(t, "\x01\x00", 256)
	wantSum(t, "\x01\x02", 258)
	wantSum(t, "\x02\x01", 513)
	// 65536 is 15 above the modulus.
	wantSum(t, "\x01\x00\x00", 15)
	wantSum(t, "\x01\x02\x03", 15+2*256+3)
	wantSum(t, "\x12\x00\x00", 270)
	wantSum(t, "\x01\x00\x00\x00", 15*256)
	wantSum(t, "\x01\x00\x00\x00\x00", 15*15)
	wantSum(t, "\xff\xff\xff", 15*255+65535-65521)
}

// Bytes that come to the modulus have the sum 0, one less has the greatest, and one more has 1; so have those that come to it twice, and to more of it.
func TestSumAtTheModulus(t *testing.T) {
	wantSum(t, "\xff\xf0", 65520)
	wantSum(t, "\xff\xf1", 0)
	wantSum(t, "\xff\xf2", 1)
	wantSum(t, "\xff\xff", 14)
	wantSum(t, "\x01\xff\xe1", 65520)
	wantSum(t, "\x01\xff\xe2", 0)
	wantSum(t, "\x01\xff\xe3", 1)
	wantSum(t, "\xff\xf1\x00", 0)
	wantSum(t, "\xff\xf1\x07", 7)
	wantSum(t, "\xff\xf1\xff\xf1", 0)
	wantSum(t, "\xff\xf0\xff", 65520)
}

// Noughts ahead do not count, those behind do.
func TestSumOfNoughts(t *testing.T) {
	for count := range 300 {
		wantSum(t, noughts(count), 0)
		wantSum(t, noughts(count)+"\x03", 3)
		wantSum(t, noughts(count)+"\x03\x00", 768)
	}
}

// Of all of one byte, of two, and of three that are near the edges.
func TestSumOfFewBytes(t *testing.T) {
	for one := range 256 {
		wantSum(t, bytes(byte(one)), one)
		for two := range 256 {
			wantSum(t, bytes(byte(one), byte(two)), (one*256+two)%modulus)
		}
	}
	for number := range 1 << 12 {
		wantSum(t, bytes(byte(number>>4), byte(number), byte(number*7)), (number>>4%256*65536+number%256*256+number*7%256)%modulus)
	}
}

func TestSumOfManyBytes(t *testing.T) {
	m := &maker{1}
	for size := range 400 {
		b := m.block(size)
		wantSum(t, b, modelSum(b))
		b = strings.Repeat("\xff", size)
		wantSum(t, b, modelSum(b))
	}
	for _, size := range []int{4095, 65521, 65536, 100_001} {
		for _, b := range []string{m.block(size), strings.Repeat("\xff", size), "\x01" + noughts(size), "\xff\xf1" + noughts(size)} {
			wantSum(t, b, modelSum(b))
		}
	}
}

// What stands behind counts as it does alone, and what stands ahead by its sum alone.
func TestSumGoesOn(t *testing.T) {
	m := &maker{2}
	for range 500 {
		first, second := m.block(m.below(40)), m.block(m.below(40))
		sum := wire.Sum(first)
		wantSum(t, bytes(byte(sum>>8), byte(sum))+second, wire.Sum(first+second))
	}
}

func TestPackByHand(t *testing.T) {
	wantPack(t, 0, nil, "\x00\x00\x00\x00\x00", api.OK)
	wantPack(t, 11, nil, bytes(11, 0, 0, 0, 165), api.OK)
	wantPack(t, 8, []string{""}, bytes(8, 1, 0, 1, 120), api.OK)
	wantPack(t, 10, []string{"", ""}, bytes(10, 2, 0, 2, 150), api.OK)
	wantPack(t, 0, []string{"\x07"}, bytes(0, 1, 1, 7, 1, 22), api.OK)
	wantPack(t, 4, []string{"\x01\x0e"}, bytes(4, 1, 2, 1, 14, 19, 176), api.OK)
	wantPack(t, 1, []string{"\x02\xff", "\x00\x00", "\x00\x01"}, bytes(1, 3, 2, 2, 255, 0, 0, 0, 1, 17, 196), api.OK)
	wantPack(t, 11, []string{"\x01\xc3\xff", "\xff\x58\x00", "\x00\x03\x00"}, bytes(11, 3, 3, 1, 195, 255, 255, 88, 0, 0, 3, 0, 208, 141), api.OK)
}

// Row 0 and the last one, and one less and one more.
func TestPackOfRows(t *testing.T) {
	lists := [][]string{nil, {}, {""}, {"a"}, {"a", "b"}, same(mostParts, strings.Repeat("x", mostSize))}
	for _, parts := range lists {
		for row := range mostRows {
			wantModelPack(t, row, parts)
			if b, err := wire.Pack(row, parts); err != nil || int(b[0]) != row {
				t.Errorf("Pack of row %d: %q, error %v", row, b, err)
			}
		}
		for _, no := range noRows {
			wantPack(t, no, parts, "", api.ErrRange)
		}
	}
}

// Of all numbers of parts and of all sizes, and one more of each; what is packed has five bytes beside the parts.
func TestPackOfAllNumbersAndSizes(t *testing.T) {
	m := &maker{3}
	for count := range mostParts + 1 {
		for size := range mostSize + 1 {
			row, parts := m.below(mostRows), m.parts(count, size)
			wantModelPack(t, row, parts)
			b, err := wire.Pack(row, parts)
			if err != nil || len(b) != 5+count*size {
				t.Errorf("Pack of %d parts of %d bytes: %d bytes, error %v", count, size, len(b), err)
			}
		}
		if count > 0 {
			for _, long := range longs {
				wantPack(t, 3, m.parts(count, long), "", api.ErrRange)
			}
		}
	}
	for size := range mostSize + 2 {
		for _, count := range []int{13, 14, 24, 255, 256, 257, 268, 1000} {
			wantPack(t, 3, m.parts(count, size), "", api.ErrFull)
		}
	}
}

// No parts are nil or an empty list alike; their length is 0.
func TestNoParts(t *testing.T) {
	for row := range mostRows {
		want := summed(bytes(byte(row), 0, 0))
		wantPack(t, row, nil, want, api.OK)
		wantPack(t, row, []string{}, want, api.OK)
		wantPack(t, row, []string{"a", "bc"}[:0], want, api.OK)
		wantUnpack(t, want, row, nil, api.OK)
	}
}

// One that is shorter or longer, at each place of lists of all lengths, however long the others are.
func TestPartsThatAreNotOfOneLength(t *testing.T) {
	apart := [][2]int{{0, 1}, {1, 0}, {1, 2}, {15, 16}, {16, 15}, {16, 17}, {17, 16}, {17, 18}, {0, 17}, {17, 0}, {0, 256}, {256, 0}, {16, 272}, {3, 259}}
	for count := 2; count <= mostParts; count++ {
		for _, sizes := range apart {
			for at := range count {
				parts := same(count, noughts(sizes[0]))
				parts[at] = noughts(sizes[1])
				wantPack(t, 0, parts, "", api.ErrShape)
				wantPack(t, 19, parts, "", api.ErrShape)
			}
			// As many bytes in all as if they were of one length.
			parts := same(count, noughts(4))
			parts[0], parts[count-1] = noughts(3), noughts(5)
			wantPack(t, 0, parts, "", api.ErrShape)
			slices.Reverse(parts)
			wantPack(t, 0, parts, "", api.ErrShape)
		}
	}
}

// The row comes first, then how many parts there are, then that they are of one length, then which one that is.
func TestWhichErrorPackTells(t *testing.T) {
	apart := append(same(mostParts, "ab"), "a")
	long := same(mostParts+1, noughts(17))
	both := []string{noughts(17), noughts(18)}
	for _, row := range noRows {
		for _, parts := range [][]string{nil, {"a", ""}, apart, long, both, {noughts(17)}, same(mostParts+1, "")} {
			wantPack(t, row, parts, "", api.ErrRange)
		}
	}
	for row := range mostRows {
		wantPack(t, row, apart, "", api.ErrFull)
		wantPack(t, row, long, "", api.ErrFull)
		wantPack(t, row, append(long, "a"), "", api.ErrFull)
		wantPack(t, row, both, "", api.ErrShape)
		wantPack(t, row, append(same(mostParts-1, noughts(17)), ""), "", api.ErrShape)
		wantPack(t, row, append(same(mostParts-1, ""), noughts(17)), "", api.ErrShape)
		wantPack(t, row, long[:mostParts], "", api.ErrRange)
	}
}

func TestUnpackByHand(t *testing.T) {
	wantUnpack(t, "\x00\x00\x00\x00\x00", 0, nil, api.OK)
	wantUnpack(t, bytes(18, 0, 0, 1, 14), 18, nil, api.OK)
	wantUnpack(t, bytes(8, 1, 0, 1, 120), 8, []string{""}, api.OK)
	wantUnpack(t, bytes(10, 2, 0, 2, 150), 10, []string{"", ""}, api.OK)
	wantUnpack(t, bytes(16, 1, 2, 2, 120, 31, 166), 16, []string{"\x02\x78"}, api.OK)
	wantUnpack(t, bytes(19, 3, 1, 255, 1, 1, 213, 133), 19, []string{"\xff", "\x01", "\x01"}, api.OK)
	wantUnpack(t, bytes(2, 3, 2, 0, 1, 1, 255, 255, 0, 83, 40), 2, []string{"\x00\x01", "\x01\xff", "\xff\x00"}, api.OK)
	wantNoUnpack(t, bytes(9, 3, 0, 3))
	wantNoUnpack(t, bytes(5, 1, 1, 255, 77, 14, 120))
	wantNoUnpack(t, bytes(146, 0, 0, 0, 150))
}

// What was packed is unpacked, of all rows, all numbers of parts and all sizes.
func TestUnpackOfWhatWasPacked(t *testing.T) {
	m := &maker{4}
	for row := range mostRows {
		for count := range mostParts + 1 {
			for size := range mostSize + 1 {
				parts := m.parts(count, size)
				b, err := wire.Pack(row, parts)
				if err != nil {
					t.Errorf("Pack of %d, %q: error %v", row, parts, err)
				}
				wantUnpack(t, b, row, parts, api.OK)
			}
		}
	}
}

// All of few bytes: there are none of fewer than five, and of five those without bytes of parts.
func TestUnpackOfFewBytes(t *testing.T) {
	wantNoUnpack(t, "")
	for size := range 5 {
		wantNoUnpack(t, noughts(size))
		wantNoUnpack(t, strings.Repeat("\x01", size))
	}
	for one := range 256 {
		for two := range 256 {
			ahead := bytes(byte(one), byte(two))
			wantNoUnpack(t, ahead)
			wantNoUnpack(t, ahead+"\x00")
			wantNoUnpack(t, ahead+"\x00\x00")
			if b := summed(ahead + "\x00"); one < mostRows && two <= mostParts {
				wantUnpack(t, b, one, same(two, ""), api.OK)
			} else {
				wantNoUnpack(t, b)
			}
		}
	}
}

// sizes are some of parts and of their bytes, with the least and the most.
var sizes = [][2]int{{0, 0}, {1, 0}, {12, 0}, {1, 1}, {2, 1}, {1, 2}, {3, 2}, {12, 1}, {1, 16}, {5, 5}, {12, 16}}

// One byte less, one more at the end, and one less and one more anywhere.
func TestUnpackOfOneByteLessAndOneMore(t *testing.T) {
	m := &maker{5}
	for _, s := range sizes {
		b := m.packed(s[0], s[1])
		for at := range b {
			wantModelUnpack(t, without(b, at))
			wantNoUnpack(t, b[:at])
		}
		wantNoUnpack(t, b+"\x00")
		wantNoUnpack(t, b+b)
		for at := range len(b) + 1 {
			for _, one := range []byte{0, 1, 2, 16, 255, byte(m.below(256))} {
				wantModelUnpack(t, inserted(b, at, one))
			}
		}
		// So that the sum is right, though there are more bytes or fewer than the numbers tell.
		ahead := b[:len(b)-2]
		wantNoUnpack(t, summed(ahead+"\x00"))
		wantNoUnpack(t, summed(ahead+"\x00\x00"))
		wantNoUnpack(t, summed(ahead[:len(ahead)-1]))
		if s[0]*s[1] > 0 {
			wantNoUnpack(t, summed(without(ahead, 3)))
		}
	}
}

// A row that there is none, with all else right.
func TestUnpackOfNoRow(t *testing.T) {
	m := &maker{6}
	for _, s := range sizes {
		for row := range 256 {
			parts := m.parts(s[0], s[1])
			b := summed(forged(row, s[0], s[1], parts...))
			if row < mostRows {
				wantUnpack(t, b, row, parts, api.OK)
			} else {
				wantNoUnpack(t, b)
			}
		}
	}
}

// All numbers of parts and all lengths, ahead of as many bytes as others come to: they fit where their product is what is there, and are as many as may be.
func TestUnpackOfNumbersThatDoNotFit(t *testing.T) {
	for _, there := range []int{0, 1, 12, 16, 192, 193, 256} {
		for count := range 256 {
			for size := range 256 {
				b := summed(forged(7, count, size, noughts(there)))
				isNone := count == 0 && size != 0
				if count*size == there && count <= mostParts && size <= mostSize && !isNone {
					wantUnpack(t, b, 7, same(count, noughts(size)), api.OK)
				} else {
					wantNoUnpack(t, b)
				}
			}
		}
	}
}

// More parts, or longer ones, than may be, with all else right.
func TestUnpackOfMoreThanMayBe(t *testing.T) {
	m := &maker{7}
	for _, count := range []int{13, 14, 24, 128, 255} {
		for _, size := range []int{0, 1, 2, 16, 17, 255} {
			wantNoUnpack(t, summed(forged(3, count, size, m.parts(count, size)...)))
		}
	}
	for _, size := range []int{17, 18, 32, 128, 255} {
		for _, count := range []int{1, 2, 12} {
			wantNoUnpack(t, summed(forged(3, count, size, m.parts(count, size)...)))
		}
	}
}

// No parts with a length: none but 0 is theirs.
func TestUnpackOfNoPartsWithALength(t *testing.T) {
	for row := range mostRows {
		for size := 1; size < 256; size++ {
			wantNoUnpack(t, summed(bytes(byte(row), 0, byte(size))))
			wantNoUnpack(t, summed(bytes(byte(row), 0, byte(size))+noughts(size)))
		}
	}
}

// All sums, of which one alone is right; one that is right but for the modulus is not.
func TestUnpackOfOtherSums(t *testing.T) {
	for _, ahead := range []string{noughts(3), bytes(0, 2, 0), bytes(19, 12, 0), bytes(5, 1, 1, 200)} {
		row, parts, _ := modelUnpack(summed(ahead))
		right := modelSum(ahead)
		for sum := range 65536 {
			b := ahead + bytes(byte(sum>>8), byte(sum))
			if sum == right {
				wantUnpack(t, b, row, parts, api.OK)
			} else {
				wantNoUnpack(t, b)
			}
		}
	}
	wantUnpack(t, bytes(0, 0, 0, 0, 0), 0, nil, api.OK)
	wantNoUnpack(t, bytes(0, 0, 0, 255, 241))
	// The low byte first.
	wantUnpack(t, bytes(18, 0, 0, 1, 14), 18, nil, api.OK)
	wantNoUnpack(t, bytes(18, 0, 0, 14, 1))
}

// Sums below 15 could be written as another number of two bytes, too, with the modulus more.
func TestUnpackOfSumsWithTheModulusMore(t *testing.T) {
	for sum := range 15 {
		b := ""
		for one := range 256 {
			for two := range 256 {
				if ahead := bytes(1, 1, 2, byte(one), byte(two)); modelSum(ahead) == sum {
					b = ahead
				}
			}
		}
		if b == "" {
			t.Fatalf("no bytes have the sum %d", sum)
		}
		wantUnpack(t, b+bytes(0, byte(sum)), 1, []string{b[3:]}, api.OK)
		wantNoUnpack(t, b+bytes(255, byte(241+sum)))
	}
}

// Each byte another one: no two that differ in one place alone are both right.
func TestUnpackOfEachByteAnotherOne(t *testing.T) {
	m := &maker{8}
	for _, s := range sizes {
		b := m.packed(s[0], s[1])
		for at := range b {
			for one := range 256 {
				if byte(one) != b[at] {
					wantNoUnpack(t, with(b, at, byte(one)))
				}
			}
		}
	}
}

func TestMendByHand(t *testing.T) {
	wantMend(t, bytes(146, 0, 0, 0, 150), 0, bytes(10, 0, 0, 0, 150), api.OK)
	wantMend(t, bytes(12, 77, 0, 0, 180), 1, bytes(12, 0, 0, 0, 180), api.OK)
	wantMend(t, bytes(12, 0, 77, 0, 180), 2, bytes(12, 0, 0, 0, 180), api.OK)
	wantMend(t, bytes(12, 0, 0, 77, 180), 3, bytes(12, 0, 0, 0, 180), api.OK)
	wantMend(t, bytes(12, 0, 0, 0, 77), 4, bytes(12, 0, 0, 0, 180), api.OK)
	wantMend(t, bytes(12, 0, 0, 0, 77), 3, "", api.ErrNone)
	wantMend(t, bytes(9, 3, 0, 3), 16, "", api.ErrRange)
	wantMend(t, bytes(9, 3, 0, 3), 1, "", api.ErrNone)
	wantMend(t, bytes(9, 1, 3, 1, 1, 0, 24, 104), -1, "", api.ErrRange)
	wantMend(t, bytes(4, 1, 2, 1, 0, 19, 176), 4, bytes(4, 1, 2, 1, 14, 19, 176), api.OK)
}

// At each place of what was packed, whatever stands there, and one less and one more than its places.
func TestMendOfWhatWasPacked(t *testing.T) {
	m := &maker{9}
	for count := range mostParts + 1 {
		for size := range mostSize + 1 {
			b := m.packed(count, size)
			for at := range b {
				wantMend(t, with(b, at, byte(m.below(256))), at, b, api.OK)
			}
			for _, at := range []int{0, len(b) - 1} {
				wantMend(t, b, at, b, api.OK)
				wantMend(t, with(b, at, b[at]^255), at, b, api.OK)
			}
			for _, at := range noPlaces(len(b)) {
				wantMend(t, b, at, "", api.ErrRange)
			}
		}
	}
}

// All bytes may stand there, also such with which the bytes are too many or too few.
func TestMendOfWhateverStandsThere(t *testing.T) {
	m := &maker{10}
	for _, s := range sizes[:9] {
		b := m.packed(s[0], s[1])
		for at := range b {
			for one := range 256 {
				wantMend(t, with(b, at, byte(one)), at, b, api.OK)
			}
		}
	}
}

// The byte that is not known may be any: the least and the greatest, too.
func TestMendToEachByte(t *testing.T) {
	for one := range 256 {
		for at := 3; at < 7; at++ {
			parts := []string{with("\x05\x00", (at-3)%2, byte(one)), "\x80\xff"}
			if at > 4 {
				slices.Reverse(parts)
			}
			b, _ := modelPack(one%mostRows, parts)
			if b[at] != byte(one) {
				t.Fatalf("at %d of %q stands no %d", at, b, one)
			}
			wantMend(t, with(b, at, 99), at, b, api.OK)
		}
	}
	for row := range mostRows {
		b, _ := modelPack(row, []string{"ab"})
		wantMend(t, with(b, 0, 200), 0, b, api.OK)
	}
}

// Two bytes are not known, and one of them is mended: what comes of it is right, or there is none.
func TestMendOfTwoThatAreWrong(t *testing.T) {
	m := &maker{11}
	none, others := 0, 0
	for range 800 {
		was := m.packed(m.below(4), m.below(5))
		b := with(was, m.below(len(was)), byte(m.below(256)))
		at := m.below(len(b))
		wantModelMend(t, b, at)
		mended, err := wire.Mend(b, at)
		if err != nil {
			none++
		} else if mended != was {
			others++
			wantModelUnpack(t, mended)
		}
	}
	if none == 0 || others == 0 {
		t.Errorf("%d are none, and %d come to others", none, others)
	}
}

// Bytes that are none with any byte at that place.
func TestMendOfBytesThatAreNone(t *testing.T) {
	m := &maker{12}
	for _, s := range sizes {
		b := m.packed(s[0], s[1])
		ahead := b[:len(b)-2]
		// A row that there is none, with the right sum: no other place mends it.
		wrong := summed(with(ahead, 0, byte(mostRows+m.below(236))))
		for at := 1; at < len(b); at++ {
			wantMend(t, wrong, at, "", api.ErrNone)
		}
		// Too many bytes, and too few of them.
		for at := 3; at < len(b); at++ {
			wantMend(t, b+"\x00", at, "", api.ErrNone)
			wantMend(t, b[:len(b)-1], min(at, len(b)-2), "", api.ErrNone)
		}
	}
	// More than may be, with a right sum: each place but those of numbers.
	for _, wrong := range []string{forged(1, 13, 1, noughts(13)), forged(1, 1, 17, noughts(17)), forged(1, 0, 3), forged(1, 13, 16, noughts(13*16))} {
		for at := 3; at < len(wrong)+2; at++ {
			wantMend(t, summed(wrong), at, "", api.ErrNone)
		}
	}
}

// No bytes have no place, and fewer than five have places at which nothing helps.
func TestMendOfFewBytes(t *testing.T) {
	for _, at := range append(noPlaces(0), noPlaces(5)...) {
		wantMend(t, "", at, "", api.ErrRange)
	}
	for size := 1; size < 5; size++ {
		for at := range size {
			wantMend(t, noughts(size), at, "", api.ErrNone)
			wantMend(t, strings.Repeat("\x01", size), at, "", api.ErrNone)
		}
		wantMend(t, noughts(size), -1, "", api.ErrRange)
		wantMend(t, noughts(size), size, "", api.ErrRange)
	}
}

// As many bytes as there may be, and one more, and many more: at each place.
func TestMendOfManyBytes(t *testing.T) {
	m := &maker{13}
	most := 3 + mostParts*mostSize + 2
	b := m.packed(mostParts, mostSize)
	if len(b) != most {
		t.Fatalf("%d bytes, want %d", len(b), most)
	}
	for at := range most + 1 {
		wantMend(t, b+"\x00", at, "", api.ErrNone)
		wantMend(t, summed(b[:most-2]+"\x00"), at, "", api.ErrNone)
	}
	long := strings.Repeat(b, 200_000)
	for _, at := range []int{0, 1, 2, 3, 196, 197, len(long) / 2, len(long) - 1} {
		wantMend(t, long, at, "", api.ErrNone)
	}
	wantMend(t, long, -1, "", api.ErrRange)
	wantMend(t, long, len(long), "", api.ErrRange)
	wantNoUnpack(t, long)
}

// Where more than one byte would do it is the least: at no place of any bytes there is more than one.
func TestNoTwoBytesDo(t *testing.T) {
	m := &maker{14}
	hold := func(b string, at int) {
		t.Helper()
		good := does(b, at)
		if len(good) == 0 {
			wantMend(t, b, at, "", api.ErrNone)
			return
		}
		if len(good) > 1 {
			t.Errorf("%q at %d: %v do", b, at, good)
		}
		wantMend(t, b, at, with(b, at, good[0]), api.OK)
	}
	for _, s := range sizes[:10] {
		b := m.packed(s[0], s[1])
		for at := range b {
			hold(b, at)
		}
	}
	// Without bytes of parts any number of them would be as long.
	for row := 0; row < mostRows; row += 3 {
		for count := range mostParts + 2 {
			b := summed(bytes(byte(row), byte(count), 0))
			for at := range b {
				hold(b, at)
			}
		}
	}
	for range 100 {
		b := m.block(m.below(12))
		for at := range b {
			hold(b, at)
		}
	}
}

// Bytes of any kind, small numbers often, answer as the model says.
func TestManyBytes(t *testing.T) {
	m := &maker{15}
	right := 0
	for range 20_000 {
		b := forged(m.below(mostRows+2), m.below(5), m.below(5), m.block(m.below(17)))
		if m.below(4) > 0 {
			b = summed(b)
		}
		wantModelUnpack(t, b)
		wantSum(t, b, modelSum(b))
		if _, _, err := wire.Unpack(b); err == nil {
			right++
		}
	}
	if right < 100 {
		t.Errorf("%d of them are right", right)
	}
	for range 1000 {
		b := m.block(m.below(300))
		wantModelUnpack(t, b)
		wantSum(t, b, modelSum(b))
	}
}

// Rows of any kind, right and wrong.
func TestManyRows(t *testing.T) {
	m := &maker{16}
	for range 20_000 {
		parts := m.parts(m.below(mostParts+3), m.below(mostSize+2))
		if len(parts) > 0 && m.below(4) == 0 {
			parts[m.below(len(parts))] = m.block(m.below(mostSize + 3))
		}
		wantModelPack(t, m.below(mostRows+4)-2, parts)
	}
}

// What Unpack takes is what Pack makes, to the byte.
func TestWhatIsUnpackedIsPackedAgain(t *testing.T) {
	m := &maker{17}
	for range 5000 {
		b := m.any()
		if m.below(2) == 0 {
			b = with(b, m.below(len(b)), byte(m.below(256)))
		}
		row, parts, err := wire.Unpack(b)
		if err == nil {
			wantPack(t, row, parts, b, api.OK)
		}
	}
}

func TestErrorsAreTheNumbersOfThePromise(t *testing.T) {
	_, noRow := wire.Pack(20, nil)
	_, full := wire.Pack(0, same(13, ""))
	_, apart := wire.Pack(0, []string{"", "a"})
	_, long := wire.Pack(0, []string{noughts(17)})
	_, _, none := wire.Unpack("")
	_, _, wrong := wire.Unpack(bytes(0, 0, 0, 0, 1))
	_, noPlace := wire.Mend("", 0)
	_, noByte := wire.Mend("a", 0)
	told := []error{noRow, full, apart, long, none, wrong, noPlace, noByte}
	for k, want := range []api.Errno{1, 4, 3, 1, 2, 2, 1, 5} {
		if plain.Told(told[k]) != want {
			t.Errorf("told %d of error %d, want %d", plain.Told(told[k]), k, want)
		}
	}
}

// inMemory lays parts into longer memory, with others behind them.
func inMemory(parts []string) []string {
	return append(slices.Clone(parts), "behind", "", "behind it")[:len(parts)]
}

// What is handed in stays as it is, and what lies behind its length is neither read nor written, with an error or none.
func TestWhatIsHandedInIsNotChanged(t *testing.T) {
	m := &maker{18}
	lists := [][]string{nil, {""}, {"a", "b"}, {"a", ""}, {noughts(17)}, same(mostParts, "xy"), same(mostParts+1, "xy")}
	for range 200 {
		lists = append(lists, m.parts(m.below(mostParts+2), m.below(mostSize+2)))
	}
	for _, parts := range lists {
		laid := inMemory(parts)
		before := slices.Clone(laid[:cap(laid)])
		for _, row := range []int{-1, 0, 19, 20} {
			wantModelPack(t, row, laid)
		}
		if after := laid[:cap(laid)]; !slices.Equal(after, before) {
			t.Errorf("%q: memory was %q, is %q", parts, before, after)
		}
	}
}

// laid has bytes in memory that may be written, with others ahead of them and behind.
func laid(b string) (string, []byte) {
	memory := []byte("ahead" + b + "behind")
	return unsafe.String(&memory[5], len(b)), memory
}

// Texts that are handed in are neither written nor kept: their memory may be another thing's behind the call.
func TestTextsThatCameInAreNotKept(t *testing.T) {
	m := &maker{19}
	for _, s := range sizes {
		b := m.packed(s[0], s[1])
		row, parts, _ := modelUnpack(b)
		text, memory := laid(b)
		gotRow, got, err := wire.Unpack(text)
		mended, noMend := wire.Mend(text, len(text)-1)
		wantSum(t, text, modelSum(b))
		if string(memory) != "ahead"+b+"behind" {
			t.Errorf("memory of %q is %q", b, memory)
		}
		spoil(memory, 'x')
		if gotRow != row || !slices.Equal(got, parts) || err != nil {
			t.Errorf("Unpack of %q: %d, %q, error %v", b, gotRow, got, err)
		}
		if mended != b || noMend != nil {
			t.Errorf("Mend of %q: %q, error %v", b, mended, noMend)
		}
		wantNoUnpack(t, text)
	}
	for _, s := range sizes {
		parts, want := m.parts(s[0], s[1]), ""
		var texts []string
		var memories [][]byte
		for _, p := range parts {
			text, memory := laid(p)
			texts, memories = append(texts, text), append(memories, memory)
		}
		b, err := wire.Pack(4, texts)
		want, _ = modelPack(4, parts)
		for k, memory := range memories {
			if string(memory) != "ahead"+parts[k]+"behind" {
				t.Errorf("memory of %q is %q", parts[k], memory)
			}
			spoil(memory, 'x')
		}
		if b != want || err != nil {
			t.Errorf("Pack of %q: %q, error %v, want %q", parts, b, err, want)
		}
	}
}

// isWithin tells that the memory of a text begins in that of another one.
func isWithin(text, other string) bool {
	at, from := uintptr(unsafe.Pointer(unsafe.StringData(text))), uintptr(unsafe.Pointer(unsafe.StringData(other)))
	return text != "" && other != "" && at >= from && at < from+uintptr(len(other))
}

// Texts that come out are fresh: no two of them share memory, nor with one that came in.
func TestTextsThatComeOutAreFresh(t *testing.T) {
	m := &maker{20}
	for _, s := range sizes {
		// Texts of one byte may all be the language's own, which nobody writes.
		if s[1] == 1 {
			continue
		}
		row, parts := m.below(mostRows), m.parts(s[0], s[1])
		texts := slices.Clone(parts)
		b, err := wire.Pack(row, parts)
		again, noPack := wire.Pack(row, parts)
		_, got, noUnpack := wire.Unpack(b)
		_, others, noOthers := wire.Unpack(b)
		mended, noMend := wire.Mend(b, 0)
		last, noLast := wire.Mend(b, len(b)-1)
		if err != nil || noPack != nil || noUnpack != nil || noOthers != nil || noMend != nil || noLast != nil {
			t.Errorf("errors %v, %v, %v, %v, %v, %v", err, noPack, noUnpack, noOthers, noMend, noLast)
		}
		texts = slices.Concat(texts, []string{b, again, mended, last}, got, others)
		for i := range texts {
			for j := range texts {
				if i != j && isWithin(texts[i], texts[j]) {
					t.Errorf("texts %d and %d share memory: %q, %q", i, j, texts[i], texts[j])
				}
			}
		}
	}
}

// spoil a list, as far as its memory reaches.
func spoil[T any](list []T, by T) {
	list = list[:cap(list)]
	for i := range list {
		list[i] = by
	}
}

// Lists that come out are the caller's: what is done with one reaches no other one, and no later call.
func TestListsThatComeOutAreFresh(t *testing.T) {
	m := &maker{21}
	for _, s := range sizes {
		b := m.packed(s[0], s[1])
		row, parts, _ := modelUnpack(b)
		_, kept, err := wire.Unpack(b)
		for range 3 {
			_, got, no := wire.Unpack(b)
			if err != nil || no != nil {
				t.Errorf("errors %v, %v", err, no)
			}
			spoil(got, "spoilt")
			wantUnpack(t, b, row, parts, api.OK)
		}
		if !slices.Equal(kept, parts) {
			t.Errorf("what came out is %q, want %q", kept, parts)
		}
	}
}

// The same calls are answered the same, whatever was asked, rightly or wrongly, ahead of them.
func TestSameAnswersAgain(t *testing.T) {
	answers := func() (out []string) {
		m := &maker{22}
		for range 300 {
			b := m.any()
			if m.below(2) == 0 {
				b = with(b, m.below(len(b)), byte(m.below(256)))
			}
			p, noPack := wire.Pack(m.below(22)-1, m.parts(m.below(14), m.below(18)))
			row, parts, noUnpack := wire.Unpack(b)
			mended, noMend := wire.Mend(b, m.below(len(b)+2)-1)
			out = append(out, fmt.Sprintf("%q %v %d %q %v %q %v %d", p, noPack, row, parts, noUnpack, mended, noMend, wire.Sum(b)))
		}
		return out
	}
	if first, second := answers(), answers(); !slices.Equal(first, second) {
		t.Errorf("answers differ: %v, %v", first, second)
	}
}
