// Package block has what codes do with blocks: whether they go together, sums of them, and data by what is left.
// Rows are those of chapter 3's matrices, with an element a block.
package block

import (
	"slices"

	"paritymill/api"
	"paritymill/field"
	"paritymill/matrix"
)

// Check tells what is wrong with blocks that go together.
func Check(blocks []string) error {
	size := sizeOf(blocks)
	if slices.ContainsFunc(blocks, func(b string) bool { return len(b) != size }) {
		return api.ErrShape
	}
	if size > api.MaxSize {
		return api.ErrRange
	}
	return nil
}

// Times has a block a row: the sum over the blocks, each times its element of the row, byte by byte.
func Times(rows [][]byte, blocks []string) []string {
	sums := make([]string, len(rows))
	for i, row := range rows {
		sum := make([]byte, sizeOf(blocks))
		for j := range min(len(row), len(blocks)) {
			addTimes(sum, blocks[j], row[j])
		}
		sums[i] = string(sum)
	}
	return sums
}

// Regain has the data, by the first parts that are not lost, as many as there are blocks of data.
// Parts are data, then parity, which has a row a block.
func Regain(parity [][]byte, parts []string, lost []bool) ([]string, error) {
	k := len(parts) - len(parity)
	// A block of data is itself alone.
	rows, err := matrix.Identity(k)
	if err != nil {
		return nil, err
	}
	left := leftOf(parts, lost)
	if len(left) < k {
		return nil, api.ErrLost
	}
	if err := Check(left); err != nil {
		return nil, err
	}
	rows = leftOf(append(rows, parity...), lost)
	inverse, err := matrix.Inverse(rows[:k])
	if err != nil {
		return nil, err
	}
	return Times(inverse, left[:k]), nil
}

// leftOf has those of all that are not lost, in their order. What nothing is told of is not lost.
func leftOf[T any](all []T, lost []bool) []T {
	var left []T
	for i, one := range all {
		if i >= len(lost) || !lost[i] {
			left = append(left, one)
		}
	}
	return left
}

// sizeOf is that of the first block, so that it is one of all blocks only where Check has nothing to tell.
func sizeOf(blocks []string) int {
	if len(blocks) == 0 {
		return 0
	}
	return len(blocks[0])
}

// addTimes adds factor times a block into sum.
func addTimes(sum []byte, block string, factor byte) {
	for at := range min(len(sum), len(block)) {
		sum[at] = field.Add(sum[at], field.Mul(block[at], factor))
	}
}
