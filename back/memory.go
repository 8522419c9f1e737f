package back

import (
	"dredge/api"
	"dredge/table"
)

// memory is a set of configurations, by their keys: as many tables as it takes, since each has only so much room.
type memory struct {
	tables []*table.Table
	count  int
}

// put takes a key in: was it not there yet?
func (m *memory) put(key []int) bool {
	for _, t := range m.tables {
		if _, there := t.Get(key); there {
			return false
		}
	}
	m.count++
	for _, t := range m.tables {
		if t.Put(key, 0) == api.OK {
			return true
		}
	}
	// No key is wider than it may be (see keyOf): there is no error.
	t, _ := table.New(len(key), api.MaxEntries)
	t.Put(key, 0)
	m.tables = append(m.tables, t)
	return true
}

// drop takes a key out that is there.
func (m *memory) drop(key []int) {
	m.count--
	for _, t := range m.tables {
		if t.Drop(key) {
			return
		}
	}
}

// isMuch tells whether one table was too small.
func (m *memory) isMuch() bool { return len(m.tables) > 1 }
