package array_test

import (
	"slices"
	"strings"

	"paritymill/api"
)

// model is an array as the chapter says it: of each row what each disk has, and whether that is lost.
// It shares no step with the program: it walks from disk to disk, and multiplies by doubling alone.
type model struct {
	n, rows, size int
	has           [][]string
	gone          [][]bool
	failed        []bool
}

func modelOf(n, rows, size int) *model {
	m := &model{n: n, rows: rows, size: size, failed: make([]bool, n)}
	for range rows {
		m.has = append(m.has, slices.Repeat([]string{noughts(size)}, n))
		m.gone = append(m.gone, make([]bool, n))
	}
	return m
}

func noughts(size int) string {
	return strings.Repeat("\x00", size)
}

// order of a row, from the disk behind that of Q on: P stands on the last disk in row 0, and one disk ahead in each row then.
func (m *model) order(row int) []int {
	at := m.n - 1
	for range row {
		if at--; at < 0 {
			at = m.n - 1
		}
	}
	from := []int{}
	for range m.n {
		from = append(from, at)
		if at++; at == m.n {
			at = 0
		}
	}
	return append(from[2:], from[0], from[1])
}

func (m *model) raw(row int) ([]string, []bool, api.Errno) {
	if row < 0 || row >= m.rows {
		return nil, nil, api.ErrRange
	}
	var parts []string
	var lost []bool
	for _, d := range m.order(row) {
		lost = append(lost, m.gone[row][d])
		if m.gone[row][d] {
			parts = append(parts, "")
			continue
		}
		parts = append(parts, m.has[row][d])
	}
	return parts, lost, api.OK
}

func (m *model) lost(row int) (int, api.Errno) {
	if row < 0 || row >= m.rows {
		return 0, api.ErrRange
	}
	count := 0
	for _, gone := range m.gone[row] {
		if gone {
			count++
		}
	}
	return count, api.OK
}

// healed has all parts of a row, in its order.
func (m *model) healed(row int) ([]string, api.Errno) {
	if count, _ := m.lost(row); count > 2 {
		return nil, api.ErrLost
	}
	parts, lost, _ := m.raw(row)
	return heal(parts, lost, m.size), api.OK
}

func (m *model) noBlock(block int) bool {
	return block < 0 || block >= m.rows*(m.n-2)
}

func (m *model) read(block int) (string, api.Errno) {
	if m.noBlock(block) {
		return "", api.ErrRange
	}
	row, at := block/(m.n-2), block%(m.n-2)
	if d := m.order(row)[at]; !m.gone[row][d] {
		return m.has[row][d], api.OK
	}
	parts, told := m.healed(row)
	if told != api.OK {
		return "", told
	}
	return parts[at], api.OK
}

func (m *model) write(block int, b string) api.Errno {
	switch {
	case m.noBlock(block):
		return api.ErrRange
	case len(b) != m.size:
		return api.ErrShape
	}
	row, at := block/(m.n-2), block%(m.n-2)
	parts, told := m.healed(row)
	if told != api.OK {
		return told
	}
	parts[at] = b
	parts[m.n-2], parts[m.n-1] = parityOf(parts[:m.n-2], m.size)
	for i, d := range m.order(row) {
		if !m.gone[row][d] {
			m.has[row][d] = parts[i]
		}
	}
	return api.OK
}

func (m *model) fail(d int) api.Errno {
	switch {
	case d < 0 || d >= m.n:
		return api.ErrRange
	case m.failed[d]:
		return api.ErrState
	}
	m.failed[d] = true
	for row := range m.rows {
		m.gone[row][d] = true
	}
	return api.OK
}

func (m *model) replace(d int) api.Errno {
	switch {
	case d < 0 || d >= m.n:
		return api.ErrRange
	case !m.failed[d]:
		return api.ErrState
	}
	m.failed[d] = false
	return api.OK
}

func (m *model) rebuild(d int) (int, api.Errno) {
	if d < 0 || d >= m.n {
		return 0, api.ErrRange
	}
	row := slices.IndexFunc(m.gone, func(gone []bool) bool { return gone[d] })
	if m.failed[d] || row < 0 {
		return 0, api.ErrState
	}
	parts, told := m.healed(row)
	if told != api.OK {
		return 0, told
	}
	m.has[row][d] = parts[slices.Index(m.order(row), d)]
	m.gone[row][d] = false
	return m.rows - row - 1, api.OK
}

func (m *model) poke(d, row int, b string) api.Errno {
	switch {
	case d < 0 || d >= m.n || row < 0 || row >= m.rows:
		return api.ErrRange
	case len(b) != m.size:
		return api.ErrShape
	case m.gone[row][d]:
		return api.ErrState
	}
	m.has[row][d] = b
	return api.OK
}

func double(b byte) byte {
	if b < 128 {
		return b * 2
	}
	return b*2 ^ 29
}

// half is what was doubled.
func half(b byte) byte {
	if b%2 == 0 {
		return b / 2
	}
	return (b^29)/2 + 128
}

// parityOf doubles from the last block on, so that the i-th one comes to be doubled i times.
func parityOf(data []string, size int) (string, string) {
	p, q := make([]byte, size), make([]byte, size)
	for i := len(data) - 1; i >= 0; i-- {
		for at := range size {
			p[at] ^= data[i][at]
			q[at] = double(q[at]) ^ data[i][at]
		}
	}
	return string(p), string(q)
}

// heal has all parts, of which at most two are lost.
func heal(parts []string, lost []bool, size int) []string {
	k := len(parts) - 2
	data := slices.Clone(parts[:k])
	var gone []int
	for i := range data {
		if lost[i] {
			gone = append(gone, i)
			data[i] = noughts(size)
		}
	}
	p, q := parityOf(data, size)
	switch {
	case len(gone) == 2:
		data[gone[0]], data[gone[1]] = two(gone[0], gone[1], sum(p, parts[k]), sum(q, parts[k+1]))
	case len(gone) == 1 && !lost[k]:
		data[gone[0]] = sum(p, parts[k])
	case len(gone) == 1:
		data[gone[0]] = halved(sum(q, parts[k+1]), gone[0])
	}
	p, q = parityOf(data, size)
	return append(data, p, q)
}

func sum(a, b string) string {
	out := []byte(a)
	for at := range out {
		out[at] ^= b[at]
	}
	return string(out)
}

func halved(b string, times int) string {
	out := []byte(b)
	for at := range out {
		for range times {
			out[at] = half(out[at])
		}
	}
	return string(out)
}

// two blocks, the i-th and the j-th, of which the sums in P and in Q are known: each byte is looked for.
func two(i, j int, p, q string) (string, string) {
	q = halved(q, i)
	second := make([]byte, len(p))
	for at := range second {
		for b := range 256 {
			more := byte(b)
			for range j - i {
				more = double(more)
			}
			if p[at]^byte(b)^more == q[at] {
				second[at] = byte(b)
			}
		}
	}
	return sum(p, string(second)), string(second)
}
