package scrub_test

import (
	"slices"

	"paritymill/api"
)

// row of an array, as the chapters say it: what each disk has, and whether that is lost.
// It shares no step with the program: it walks from disk to disk, and multiplies by doubling alone.
type row struct {
	has  []string
	gone []bool
}

// orderOf a row, from the disk behind that of Q on: P stands on the last disk in row 0, and one disk ahead in each row then.
func orderOf(n, at int) []int {
	p := n - 1
	for range at {
		if p--; p < 0 {
			p = n - 1
		}
	}
	var from []int
	for range n {
		from = append(from, p)
		if p++; p == n {
			p = 0
		}
	}
	return append(from[2:], from[0], from[1])
}

func double(b byte) byte {
	if b < 128 {
		return b * 2
	}
	return b*2 ^ 29
}

// parityOf doubles from the last block on, so that the i-th one comes to be doubled i times.
func parityOf(data []string) (string, string) {
	p, q := make([]byte, len(data[0])), make([]byte, len(data[0]))
	for i := len(data) - 1; i >= 0; i-- {
		for at := range p {
			p[at] ^= data[i][at]
			q[at] = double(q[at]) ^ data[i][at]
		}
	}
	return string(p), string(q)
}

// rightParts tells that P and Q are those of the data.
func rightParts(parts []string) bool {
	k := len(parts) - 2
	p, q := parityOf(parts[:k])
	return parts[k] == p && parts[k+1] == q
}

// another has the parts with the one block at a part by which P is right; Q has its own.
func another(parts []string, at int) []string {
	out, k := slices.Clone(parts), len(parts)-2
	if at == k+1 {
		_, out[at] = parityOf(parts[:k])
		return out
	}
	b := make([]byte, len(parts[0]))
	for i, part := range parts[:k+1] {
		for j := range b {
			if i != at {
				b[j] ^= part[j]
			}
		}
	}
	out[at] = string(b)
	return out
}

// rows of an array, from 0 on.
type rows []row

func (r rows) clone() rows {
	var out rows
	for _, one := range r {
		out = append(out, row{slices.Clone(one.has), slices.Clone(one.gone)})
	}
	return out
}

// scrub one row of n disks.
func (r rows) scrub(n, at int) (int, api.Errno) {
	switch {
	case n < 3 || n > 10 || at < 0 || at >= len(r):
		return 0, api.ErrRange
	case n != len(r[at].has):
		return 0, api.ErrShape
	case slices.Contains(r[at].gone, true):
		return 0, api.ErrState
	}
	var parts []string
	order := orderOf(n, at)
	for _, d := range order {
		parts = append(parts, r[at].has[d])
	}
	if rightParts(parts) {
		return -1, api.OK
	}
	for i, d := range order {
		if mended := another(parts, i); rightParts(mended) {
			r[at].has[d] = mended[i]
			return d, api.OK
		}
	}
	return 0, api.ErrLost
}

// scrubAll goes over so many rows.
func (r rows) scrubAll(n, count int) ([]api.Spot, api.Errno) {
	var spots []api.Spot
	for at := 0; at < count; at++ {
		switch d, told := r.scrub(n, at); {
		case told == api.ErrState || told == api.ErrLost:
		case told != api.OK:
			return nil, told
		case d >= 0:
			spots = append(spots, api.Spot{Disk: d, Row: at})
		}
	}
	return spots, api.OK
}
