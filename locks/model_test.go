package locks_test

import (
	"slices"

	"paritymill/api"
)

// The bounds are written out, so that they share no number with the program.
const (
	mostWho   = 1000
	mostCells = 40
	mostWait  = 30
)

// asked is one that asked: its cells, one by one, and the how manyth it was to be Held; 0 while it Waits.
type asked struct {
	lock  api.Lock
	cells [mostCells]bool
	since int
}

// model is Locks as the chapter says it: all that asked and were not freed, in the order in which they asked. Who is Held comes of going over them until nothing changes any more.
type model struct {
	list   []asked
	grants int
}

// find where one of who stands; -1 if there is none.
func (m *model) find(who int) int {
	return slices.IndexFunc(m.list, func(x asked) bool { return x.lock.Who == who })
}

func (m *model) ask(l api.Lock) (bool, api.Errno) {
	switch {
	case l.Who < 1, l.Who > mostWho, l.From < 0, l.From >= l.To, l.To > mostCells:
		return false, api.ErrRange
	case m.find(l.Who) != -1:
		return false, api.ErrClash
	case len(m.list) == mostWait:
		return false, api.ErrFull
	}
	x := asked{lock: l}
	for cell := l.From; cell < l.To; cell++ {
		x.cells[cell] = true
	}
	m.list = append(m.list, x)
	m.settle()
	return m.list[len(m.list)-1].since > 0, api.OK
}

func (m *model) free(who int) ([]int, api.Errno) {
	at := m.find(who)
	if at == -1 {
		return nil, api.ErrNone
	}
	m.list = slices.Delete(m.list, at, at+1)
	return m.settle(), api.OK
}

// settle makes Held the first one that may be, and again from the first on, until none may.
func (m *model) settle() (then []int) {
	for at := 0; at < len(m.list); at++ {
		if m.list[at].since == 0 && !m.blocked(at) {
			m.grants++
			m.list[at].since = m.grants
			then = append(then, m.list[at].lock.Who)
			at = -1
		}
	}
	return then
}

// blocked tells that one that is Held, or one ahead, is at odds with the one at a place.
func (m *model) blocked(at int) bool {
	for k, other := range m.list {
		if (k < at || other.since > 0) && k != at && atOdds(other, m.list[at]) {
			return true
		}
	}
	return false
}

// atOdds goes over all cells.
func atOdds(a, b asked) bool {
	if !a.lock.Alone && !b.lock.Alone {
		return false
	}
	for cell := range mostCells {
		if a.cells[cell] && b.cells[cell] {
			return true
		}
	}
	return false
}

func (m *model) held() (out []api.Lock) {
	for grant := 1; grant <= m.grants; grant++ {
		for _, x := range m.list {
			if x.since == grant {
				out = append(out, x.lock)
			}
		}
	}
	return out
}

func (m *model) waits() (out []api.Lock) {
	for _, x := range m.list {
		if x.since == 0 {
			out = append(out, x.lock)
		}
	}
	return out
}
