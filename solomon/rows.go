package solomon

import (
	"slices"
	"sync"

	"farhail/api"
)

// mended is what came of a row: its data, and the places of it that were wrong.
type mended struct {
	data   []byte
	places []int
	lost   bool
}

// pick: row at of a list that was laid into so many rows.
func pick[T any](list []T, at, depth int) []T {
	row := make([]T, 0, len(list)/depth)
	for i := at; i < len(list); i += depth {
		row = append(row, list[i])
	}
	return row
}

// lay puts a row into its places of a list.
func lay(list, row []byte, at, depth int) {
	for i, b := range row {
		list[i*depth+at] = b
	}
}

// decodeRows: what came of each row of a block. No row hangs on another one, so each has a goroutine of its own.
func decodeRows(block []byte, depth, checks int, doubtful []bool) []mended {
	rows := make([]mended, depth)
	var all sync.WaitGroup
	all.Add(depth)
	for at := range depth {
		go func() {
			defer all.Done()
			rows[at] = decode(pick(block, at, depth), checks, pick(doubtful, at, depth))
		}()
	}
	all.Wait()
	return rows
}

// join: the data of all rows, and the places of the block at which they were mended.
func join(rows []mended) ([]byte, []int, api.Errno) {
	depth := len(rows)
	data := make([]byte, depth*len(rows[0].data))
	var places []int
	for at, row := range rows {
		if row.lost {
			return nil, nil, api.ErrLost
		}
		lay(data, row.data, at, depth)
		for _, p := range row.places {
			places = append(places, p*depth+at)
		}
	}
	slices.Sort(places)
	return data, places, api.OK
}
