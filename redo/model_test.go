package redo_test

import (
	"paritymill/api"
	"paritymill/redo"
)

// The bounds are written out, so that they share no number with the program.
const mostCells, mostSize = 40, 16

// put is one that was taken: what it wrote, and how many bytes its record has.
type put struct {
	writes []api.Write
	size   int
}

// model is a redo as the chapter says it: no bytes, but the list of all that was put, of which the first ones are safe.
type model struct {
	first   []string
	puts    []put
	safe    int
	half    int // bytes of a record that stopped
	fail    int // which of the steps from Fail on stops it
	taken   int // steps from Fail on
	stopped bool
}

func modelOf(cells []string) *model {
	return &model{first: append([]string(nil), cells...), fail: -1}
}

// sizeOf a record is free, so that the program is asked for it: a new one, which has no other record.
func sizeOf(l []api.Write) int {
	r, err := redo.New(make([]string, mostCells))
	if err != nil || r.Put(l) != nil {
		return -1
	}
	return r.Bytes()
}

func (m *model) put(l []api.Write) api.Errno {
	if m.stopped {
		return api.ErrState
	}
	if len(l) > mostCells {
		return api.ErrFull
	}
	for _, w := range l {
		if w.At < 0 || w.At >= len(m.first) || len(w.B) > mostSize {
			return api.ErrRange
		}
	}
	if m.step() {
		m.half = sizeOf(l) / 2
		return api.ErrState
	}
	m.puts = append(m.puts, put{append([]api.Write(nil), l...), sizeOf(l)})
	return api.OK
}

func (m *model) sync() api.Errno {
	if m.stopped || m.step() {
		return api.ErrState
	}
	m.safe = len(m.puts)
	return api.OK
}

// step tells that it stops there.
func (m *model) step() bool {
	m.taken++
	m.stopped = m.fail >= 0 && m.taken > m.fail
	return m.stopped
}

func (m *model) failAt(n int) {
	m.fail, m.taken = n, 0
}

func (m *model) crash(keep int) {
	for m.safe < len(m.puts) && m.puts[m.safe].size <= keep {
		keep -= m.puts[m.safe].size
		m.safe++
	}
	*m = model{first: m.first, puts: m.puts[:m.safe], safe: m.safe, fail: -1}
}

// all cells: each as the last write of it says, or as it was from the beginning.
func (m *model) all() []string {
	var out []string
	for at := range m.first {
		out = append(out, m.last(at))
	}
	return out
}

func (m *model) last(at int) string {
	for i := len(m.puts) - 1; i >= 0; i-- {
		l := m.puts[i].writes
		for k := len(l) - 1; k >= 0; k-- {
			if l[k].At == at {
				return l[k].B
			}
		}
	}
	return m.first[at]
}

func (m *model) bytes() int {
	return sizes(m.puts) + m.half
}

func (m *model) safeBytes() int {
	return sizes(m.puts[:m.safe])
}

func sizes(l []put) (sum int) {
	for _, p := range l {
		sum += p.size
	}
	return sum
}
