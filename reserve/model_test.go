package reserve_test

import (
	"slices"

	"paritymill/api"
)

// The bounds and the kinds are written out, so that they share no number with the program.
const (
	mostHosts = 9
	mostKey   = 1000000

	writeAlone   = 1
	alone        = 2
	writeMembers = 3
	members      = 4
)

// member is a host that has a key, with what it holds: of one kind, or nothing.
type member struct {
	host, key int
	holds     []int
}

// model is a reserve as the chapter says it: a list of the hosts that have a key, in the order in which they came, each with what it holds.
type model struct {
	list []member
}

// find where a host stands; -1 if it has no key.
func (m *model) find(host int) int {
	return slices.IndexFunc(m.list, func(x member) bool { return x.host == host })
}

func isNone(n, most int) bool {
	return n < 1 || n > most
}

func (m *model) register(host, key int) api.Errno {
	if isNone(host, mostHosts) || isNone(key, mostKey) {
		return api.ErrRange
	}
	if at := m.find(host); at != -1 {
		m.list[at].key = key
		return api.OK
	}
	m.list = append(m.list, member{host: host, key: key})
	return api.OK
}

func (m *model) leave(host int) api.Errno {
	if isNone(host, mostHosts) {
		return api.ErrRange
	}
	at := m.find(host)
	if at == -1 {
		return api.ErrNone
	}
	m.list = slices.Delete(m.list, at, at+1)
	return api.OK
}

// mine is the member that a host is by a key; nil if the key is not its.
func (m *model) mine(host, key int) *member {
	for at := range m.list {
		if m.list[at].host == host && m.list[at].key == key {
			return &m.list[at]
		}
	}
	return nil
}

func (m *model) hold(host, key, kind int) api.Errno {
	if isNone(host, mostHosts) || isNone(kind, members) {
		return api.ErrRange
	}
	who := m.mine(host, key)
	if who == nil {
		return api.ErrDenied
	}
	for _, x := range m.list {
		for _, has := range x.holds {
			if x.host != host || has != kind {
				return api.ErrState
			}
		}
	}
	who.holds = []int{kind}
	return api.OK
}

func (m *model) free(host, key, kind int) api.Errno {
	if isNone(host, mostHosts) || isNone(kind, members) {
		return api.ErrRange
	}
	who := m.mine(host, key)
	if who == nil {
		return api.ErrDenied
	}
	if len(who.holds) == 0 {
		return api.ErrNone
	}
	if !slices.Contains(who.holds, kind) {
		return api.ErrShape
	}
	who.holds = nil
	return api.OK
}

func (m *model) preempt(host, key, other int) (int, api.Errno) {
	if isNone(host, mostHosts) || isNone(other, mostKey) {
		return 0, api.ErrRange
	}
	if m.mine(host, key) == nil {
		return 0, api.ErrDenied
	}
	var gone, left []member
	var taken []int
	for _, x := range m.list {
		if x.key == other {
			gone, taken = append(gone, x), append(taken, x.holds...)
		} else {
			left = append(left, x)
		}
	}
	if len(gone) == 0 {
		return 0, api.ErrNone
	}
	m.list = left
	if at := m.find(host); at != -1 {
		m.list[at].holds = append(slices.Clone(m.list[at].holds), taken...)
	}
	return len(gone), api.OK
}

// may tells it by a table of who may: who holds it, who else has a key, and who has none.
func (m *model) may(host int, write bool) (bool, api.Errno) {
	if isNone(host, mostHosts) {
		return false, api.ErrRange
	}
	who := 2
	if at := m.find(host); at != -1 {
		who = 1 - len(m.list[at].holds)
	}
	toRead, toWrite := "yyy", "yyy"
	switch m.holder().Kind {
	case writeAlone:
		toWrite = "ynn"
	case alone:
		toRead, toWrite = "ynn", "ynn"
	case writeMembers:
		toWrite = "yyn"
	case members:
		toRead, toWrite = "yyn", "yyn"
	}
	if write {
		return toWrite[who] == 'y', api.OK
	}
	return toRead[who] == 'y', api.OK
}

func (m *model) holder() (out api.Holder) {
	for _, x := range m.list {
		for _, kind := range x.holds {
			out = api.Holder{Host: x.host, Kind: kind}
		}
	}
	return out
}

func (m *model) keys() []int {
	out := make([]int, mostHosts)
	for _, x := range m.list {
		out[x.host-1] = x.key
	}
	return out
}
