package place_test

import (
	"slices"

	"paritymill/api"
)

// The bounds are written out, so that they share no number with the program.
const (
	mostDisks   = 10
	mostStripes = 40
)

// modelPlace takes disk by disk: each time the first one that no other one of those left has fewer blocks than.
func modelPlace(n, wide, many int) (out [][]int, told api.Errno) {
	if n < 1 || n > mostDisks || wide < 1 || wide > n || many < 0 || many > mostStripes {
		return nil, api.ErrRange
	}
	for range many {
		in := map[int]bool{}
		for range wide {
			best, fewest := -1, mostStripes+1
			for d := range n {
				if count := blocksOn(out, d); !in[d] && count < fewest {
					best, fewest = d, count
				}
			}
			in[best] = true
		}
		var stripe []int
		for d := range n {
			if in[d] {
				stripe = append(stripe, d)
			}
		}
		out = append(out, stripe)
	}
	return out, api.OK
}

// modelRound goes round: where the last stripe ended the next one begins, and behind the last disk is the first one.
func modelRound(n, wide, many int) (out [][]int) {
	next := 0
	for range many {
		var stripe []int
		for range wide {
			stripe = append(stripe, next)
			if next++; next == n {
				next = 0
			}
		}
		slices.Sort(stripe)
		out = append(out, stripe)
	}
	return out
}

// blocksOn counts a disk's, by looking at each block.
func blocksOn(l [][]int, d int) (count int) {
	for _, stripe := range l {
		for _, is := range stripe {
			if is == d {
				count++
			}
		}
	}
	return count
}

// modelFault is what is wrong with stripes on n disks, where n is none of it.
func modelFault(n int, l [][]int) api.Errno {
	if len(l) > mostStripes {
		return api.ErrFull
	}
	for _, stripe := range l {
		twice := false
		for at, d := range stripe {
			if d < 0 || d > n-1 {
				return api.ErrRange
			}
			for _, other := range stripe[:at] {
				twice = twice || other == d
			}
		}
		if twice {
			return api.ErrClash
		}
	}
	return api.OK
}

func modelLoads(n int, l [][]int) ([]int, api.Errno) {
	if n < 1 || n > mostDisks {
		return nil, api.ErrRange
	}
	if told := modelFault(n, l); told != api.OK {
		return nil, told
	}
	var out []int
	for d := range n {
		out = append(out, blocksOn(l, d))
	}
	return out, api.OK
}

func modelHurt(l [][]int, d int) ([]int, api.Errno) {
	if d < 0 || d > mostDisks-1 {
		return nil, api.ErrRange
	}
	if told := modelFault(mostDisks, l); told != api.OK {
		return nil, told
	}
	var out []int
	for at := range l {
		if blocksOn(l[at:at+1], d) == 1 {
			out = append(out, at)
		}
	}
	return out, api.OK
}

// modelPeers asks of each other disk in how many stripes both of them are.
func modelPeers(n int, l [][]int, d int) ([]int, api.Errno) {
	if _, told := modelLoads(n, l); told != api.OK {
		return nil, told
	}
	if d < 0 || d > n-1 {
		return nil, api.ErrRange
	}
	out := make([]int, n)
	for other := range n {
		for at := range l {
			if other != d && blocksOn(l[at:at+1], d)+blocksOn(l[at:at+1], other) == 2 {
				out[other]++
			}
		}
	}
	return out, api.OK
}
