package run_test

import (
	"fmt"
	"regexp"
	"slices"
	"strconv"
	"strings"
)

// The bounds are written out, so that they share no number with the program.
const (
	mostBytes = 3000
	mostDisks = 5
	mostRows  = 4
	mostBlock = 12 // blocks of an array: 3 in each row
)

// orders of the rows, written out: the disks of the data, then that of P, then that of Q.
var orders = [mostRows][mostDisks]int{{1, 2, 3, 4, 0}, {0, 1, 2, 3, 4}, {4, 0, 1, 2, 3}, {3, 4, 0, 1, 2}}

// cell is what a disk has in a row.
type cell [2]byte

// model is the array of a text, as the chapters say it: it shares no step with the program, and no package.
// What is lost of a row is looked for byte by byte, among all that it may be.
type model struct {
	has    [mostRows][mostDisks]cell
	gone   [mostRows][mostDisks]bool
	failed [mostDisks]bool
}

// form of a line, whose numbers are what is caught, and behind them its block, if it has one.
type form struct {
	is    *regexp.Regexp
	block bool
	does  func(m *model, n []int, b cell) string
}

const (
	numberForm = ` (0|[1-9][0-9]{0,3})`
	blockForm  = ` ([0-9a-f]{4})`
)

func formOf(word string, numbers int, block bool, does func(m *model, n []int, b cell) string) form {
	text := `\A` + word + strings.Repeat(numberForm, numbers)
	if block {
		text += blockForm
	}
	return form{regexp.MustCompile(text + `\z`), block, does}
}

var forms = []form{
	formOf("read", 1, false, func(m *model, n []int, _ cell) string { return m.read(n[0]) }),
	formOf("write", 1, true, func(m *model, n []int, b cell) string { return m.write(n[0], b) }),
	formOf("fail", 1, false, func(m *model, n []int, _ cell) string { return m.fail(n[0]) }),
	formOf("replace", 1, false, func(m *model, n []int, _ cell) string { return m.replace(n[0]) }),
	formOf("poke", 2, true, func(m *model, n []int, b cell) string { return m.poke(n[0], n[1], b) }),
	formOf("rebuild", 1, false, func(m *model, n []int, _ cell) string { return m.rebuild(n[0]) }),
	formOf("lost", 1, false, func(m *model, n []int, _ cell) string { return m.lost(n[0]) }),
	formOf("scrub", 0, false, func(m *model, _ []int, _ cell) string { return m.scrub() }),
}

// modelRun answers a text.
func modelRun(text string) string {
	if len(text) > mostBytes {
		return "too long\n"
	}
	m, answers, line := &model{}, "", ""
	for i := range len(text) {
		if text[i] != 10 {
			line += text[i : i+1]
			continue
		}
		answers, line = answers+m.answer(line)+"\n", ""
	}
	if line != "" {
		answers += m.answer(line) + "\n"
	}
	return answers
}

func (m *model) answer(line string) string {
	for _, f := range forms {
		caught := f.is.FindStringSubmatch(line)
		if caught == nil {
			continue
		}
		words := caught[1:]
		var b cell
		if f.block {
			value, _ := strconv.ParseUint(words[len(words)-1], 16, 16)
			b, words = cell{byte(value >> 8), byte(value)}, words[:len(words)-1]
		}
		var n []int
		for _, word := range words {
			value, _ := strconv.Atoi(word)
			n = append(n, value)
		}
		return f.does(m, n, b)
	}
	return "bad"
}

func (m *model) read(block int) string {
	if block >= mostBlock {
		return "ErrRange"
	}
	row, at := block/3, block%3
	if d := orders[row][at]; !m.gone[row][d] {
		return fmt.Sprintf("%x", m.has[row][d][:])
	}
	if m.count(row) > 2 {
		return "ErrLost"
	}
	parts := healed(m.parts(row))
	return fmt.Sprintf("%x", parts[at][:])
}

func (m *model) write(block int, b cell) string {
	if block >= mostBlock {
		return "ErrRange"
	}
	row, at := block/3, block%3
	if m.count(row) > 2 {
		return "ErrLost"
	}
	parts := healed(m.parts(row))
	parts[at] = b
	parts = withParity(parts)
	for i, d := range orders[row] {
		if !m.gone[row][d] {
			m.has[row][d] = parts[i]
		}
	}
	return "ok"
}

func (m *model) fail(d int) string {
	switch {
	case d >= mostDisks:
		return "ErrRange"
	case m.failed[d]:
		return "ErrState"
	}
	m.failed[d] = true
	for row := range m.gone {
		m.gone[row][d] = true
	}
	return "ok"
}

func (m *model) replace(d int) string {
	switch {
	case d >= mostDisks:
		return "ErrRange"
	case !m.failed[d]:
		return "ErrState"
	}
	m.failed[d] = false
	return "ok"
}

func (m *model) poke(d, row int, b cell) string {
	switch {
	case d >= mostDisks || row >= mostRows:
		return "ErrRange"
	case m.gone[row][d]:
		return "ErrState"
	}
	m.has[row][d] = b
	return "ok"
}

func (m *model) rebuild(d int) string {
	if d >= mostDisks {
		return "ErrRange"
	}
	if m.failed[d] {
		return "ErrState"
	}
	for row := range m.gone {
		if !m.gone[row][d] {
			continue
		}
		if m.count(row) > 2 {
			return "ErrLost"
		}
		m.has[row][d] = healed(m.parts(row))[slices.Index(orders[row][:], d)]
		m.gone[row][d] = false
		return strconv.Itoa(mostRows - 1 - row)
	}
	return "ErrState"
}

func (m *model) lost(row int) string {
	if row >= mostRows {
		return "ErrRange"
	}
	return strconv.Itoa(m.count(row))
}

// scrub tries each part of a row: if all others heal it to what they are themselves, it was that one.
func (m *model) scrub() string {
	var spots []string
	for row := range mostRows {
		parts, gone := m.parts(row)
		if slices.Contains(gone[:], true) || parts == withParity(parts) {
			continue
		}
		for i, d := range orders[row] {
			var lost [mostDisks]bool
			lost[i] = true
			mended := healed(parts, lost)
			others := mended
			others[i] = parts[i]
			if others == parts {
				m.has[row][d] = mended[i]
				spots = append(spots, fmt.Sprintf("%d.%d", d, row))
				break
			}
		}
	}
	if spots == nil {
		return "-"
	}
	return strings.Join(spots, " ")
}

// count of the parts of a row that are lost.
func (m *model) count(row int) int {
	count := 0
	for _, gone := range m.gone[row] {
		if gone {
			count++
		}
	}
	return count
}

// parts of a row: the data, then P, then Q, and which are lost.
func (m *model) parts(row int) (parts [mostDisks]cell, gone [mostDisks]bool) {
	for i, d := range orders[row] {
		parts[i], gone[i] = m.has[row][d], m.gone[row][d]
	}
	return parts, gone
}

func double(b byte) byte {
	if b < 128 {
		return b * 2
	}
	return b*2 ^ 29
}

func pOf(x, y, z byte) byte { return x ^ y ^ z }

func qOf(x, y, z byte) byte { return x ^ double(y) ^ double(double(z)) }

func withParity(parts [mostDisks]cell) [mostDisks]cell {
	for at := range 2 {
		x, y, z := parts[0][at], parts[1][at], parts[2][at]
		parts[3][at], parts[4][at] = pOf(x, y, z), qOf(x, y, z)
	}
	return parts
}

// healed has all parts, of which at most two are lost.
func healed(parts [mostDisks]cell, gone [mostDisks]bool) [mostDisks]cell {
	var lost []int
	for i := range 3 {
		if gone[i] {
			lost = append(lost, i)
		}
	}
	for at := range 2 {
		data := [3]byte{parts[0][at], parts[1][at], parts[2][at]}
		fitting(&data, lost, parts[3][at], parts[4][at], len(lost) == 1 && gone[3])
		for i, b := range data {
			parts[i][at] = b
		}
	}
	return withParity(parts)
}

// fitting bytes stand in place of those that are lost: one that fits P (or Q alone), two that fit both.
func fitting(data *[3]byte, lost []int, p, q byte, byQ bool) {
	switch len(lost) {
	case 1:
		for b := range 256 {
			data[lost[0]] = byte(b)
			if byQ && qOf(data[0], data[1], data[2]) == q || !byQ && pOf(data[0], data[1], data[2]) == p {
				return
			}
		}
	case 2:
		for b := range 256 {
			data[lost[0]], data[lost[1]] = byte(b), 0
			data[lost[1]] = p ^ pOf(data[0], data[1], data[2])
			if qOf(data[0], data[1], data[2]) == q {
				return
			}
		}
	}
}
