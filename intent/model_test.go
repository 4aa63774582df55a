package intent_test

import (
	"slices"

	"paritymill/api"
)

// model is an intent as the chapter says it: the cells of each region written out, a list with one entry for each Begin that is not over, and the regions that are dirty.
type model struct {
	regions [][]int
	begun   []int
	marked  []int
}

func modelOf(wide int) *model {
	var all []int
	for cell := range cells {
		all = append(all, cell)
	}
	return &model{regions: slices.Collect(slices.Chunk(all, wide))}
}

// home of a cell; -1 if it has none.
func (m *model) home(cell int) int {
	return slices.IndexFunc(m.regions, func(l []int) bool { return slices.Contains(l, cell) })
}

func (m *model) begin(cell int) (bool, api.Errno) {
	home := m.home(cell)
	if home == -1 {
		return false, api.ErrRange
	}
	m.begun = append(m.begun, cell)
	if slices.Contains(m.marked, home) {
		return false, api.OK
	}
	m.marked = append(m.marked, home)
	return true, api.OK
}

func (m *model) end(cell int) api.Errno {
	if m.home(cell) == -1 {
		return api.ErrRange
	}
	at := slices.Index(m.begun, cell)
	if at == -1 {
		return api.ErrState
	}
	m.begun = slices.Delete(m.begun, at, at+1)
	return api.OK
}

func (m *model) clean(region int) (bool, api.Errno) {
	if region < 0 || region >= len(m.regions) {
		return false, api.ErrRange
	}
	for _, cell := range m.regions[region] {
		if slices.Contains(m.begun, cell) {
			return false, api.OK
		}
	}
	at := slices.Index(m.marked, region)
	if at == -1 {
		return false, api.OK
	}
	m.marked = slices.Delete(m.marked, at, at+1)
	return true, api.OK
}

func (m *model) crash() []int {
	m.begun = nil
	return m.dirty()
}

func (m *model) dirty() []int {
	return slices.Sorted(slices.Values(m.marked))
}
