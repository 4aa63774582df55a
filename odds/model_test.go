package odds_test

import (
	"slices"

	"paritymill/api"
)

// The bounds are written out, so that they share no number with the program.
const (
	mostDisks   = 10
	mostStripes = 40
	mostThings  = 30
)

// modelChoose builds row by row: of one thing more, taken or not, there are as many ways as of both.
func modelChoose(n, k int) (int, api.Errno) {
	if n < 0 || n > mostThings || k < 0 || k > n {
		return 0, api.ErrRange
	}
	row := []int{1}
	for range n {
		next := []int{1}
		for at := 1; at < len(row); at++ {
			next = append(next, row[at-1]+row[at])
		}
		row = append(next, 1)
	}
	return row[k], api.OK
}

// modelFault is what is wrong with stripes on n disks.
func modelFault(n int, l [][]int) api.Errno {
	if n < 1 || n > mostDisks {
		return api.ErrRange
	}
	if len(l) > mostStripes {
		return api.ErrFull
	}
	for _, stripe := range l {
		twice := false
		for at, d := range stripe {
			if d < 0 || d > n-1 {
				return api.ErrRange
			}
			twice = twice || slices.Contains(stripe[:at], d)
		}
		if twice {
			return api.ErrClash
		}
	}
	return api.OK
}

// eachWay calls with each list of so many of n disks, rising.
func eachWay(n, fails int, do func(failed []int)) {
	var from func(failed []int, next int)
	from = func(failed []int, next int) {
		if len(failed) == fails {
			do(failed)
			return
		}
		for d := next; d < n; d++ {
			from(append(slices.Clone(failed), d), d+1)
		}
	}
	from(nil, 0)
}

// isTooMuch tells whether a stripe loses more than parity, by looking at each of its blocks.
func isTooMuch(l [][]int, failed []int, parity int) bool {
	for _, stripe := range l {
		left := parity
		for _, d := range stripe {
			if slices.Contains(failed, d) {
				left--
			}
		}
		if left < 0 {
			return true
		}
	}
	return false
}

// ways counts those that are too much.
func ways(n int, l [][]int, fails, parity int) (count int) {
	eachWay(n, fails, func(failed []int) {
		if isTooMuch(l, failed, parity) {
			count++
		}
	})
	return count
}

func modelFatal(n int, l [][]int, fails, parity int) (int, api.Errno) {
	if told := modelFault(n, l); told != api.OK {
		return 0, told
	}
	if fails < 0 || fails > n || parity < 0 || parity > mostDisks {
		return 0, api.ErrRange
	}
	return ways(n, l, fails, parity), api.OK
}

// modelWorst lets one more fail each time, until there is a way that is too much.
func modelWorst(n int, l [][]int, parity int) (int, api.Errno) {
	if told := modelFault(n, l); told != api.OK {
		return 0, told
	}
	if parity < 0 || parity > mostDisks {
		return 0, api.ErrRange
	}
	for fails := range n + 1 {
		if ways(n, l, fails, parity) > 0 {
			return fails, api.OK
		}
	}
	return -1, api.OK
}
