package redo

import (
	"paritymill/api"
)

// A record is two bytes that tell how many follow, and then of each write a byte for its cell, one for its size, and its own bytes. MaxCells and MaxSize are such that each number has room in its bytes. A record tells its size ahead of all else, so that no beginning of one is taken for a whole one.
const (
	headSize  = 2 // of a record
	placeSize = 2 // of a write: its cell and its size
)

// recordOf writes.
func recordOf(l []api.Write) []byte {
	record := make([]byte, headSize)
	for _, w := range l {
		record = append(record, byte(w.At), byte(len(w.B)))
		record = append(record, w.B...)
	}
	size := len(record) - headSize
	record[0], record[1] = byte(size>>8), byte(size)
	return record
}

// replay writes into cells what the whole records of a log say, and tells how many bytes these have.
func replay(cells []string, log []byte) int {
	done := 0
	for {
		end := done + wholeSize(log[done:])
		if end == done {
			return done
		}
		rewrite(cells, log[done+headSize:end])
		done = end
	}
}

// wholeSize tells how many bytes the first record of a log has; 0 if it is not whole.
func wholeSize(log []byte) int {
	if len(log) < headSize {
		return 0
	}
	size := headSize + int(log[0])<<8 + int(log[1])
	if len(log) < size {
		return 0
	}
	return size
}

// rewrite does the writes of a record that is whole.
func rewrite(cells []string, writes []byte) {
	for len(writes) > 0 {
		at, end := int(writes[0]), placeSize+int(writes[1])
		cells[at] = string(writes[placeSize:end])
		writes = writes[end:]
	}
}
