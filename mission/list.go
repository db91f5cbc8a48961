package mission

import "slices"

// within: is a number from least to most?
func within(n, least, most int) bool { return least <= n && n <= most }

// allWithin: are all numbers of a list?
func allWithin[N int | byte](list []N, least, most N) bool {
	return !slices.ContainsFunc(list, func(n N) bool { return n < least || n > most })
}

// place of the one in a list that has an ID; below 0, if there is none.
func place[T any](list []T, id int, idOf func(T) int) int {
	return slices.IndexFunc(list, func(x T) bool { return idOf(x) == id })
}

// fewUnlike: are there at most so many in a list, with unlike IDs, all of which may be?
func fewUnlike[T any](list []T, most int, idOf func(T) int, mayBe func(T) bool) bool {
	if len(list) > most {
		return false
	}
	for i, x := range list {
		if !mayBe(x) || place(list, idOf(x), idOf) != i {
			return false
		}
	}
	return true
}

// copied: a list of copies.
func copied[T any](list []T, copyOf func(T) T) []T {
	out := make([]T, 0, len(list))
	for _, x := range list {
		out = append(out, copyOf(x))
	}
	return out
}

// number of bytes, the highest one first.
func number(bytes []byte) int {
	n := 0
	for _, b := range bytes {
		n = n<<byteBits | int(b)
	}
	return n
}

// put a number behind bytes, as so many bytes, the highest one first.
func put(bytes []byte, wide, n int) []byte {
	for i := wide - 1; i >= 0; i-- {
		bytes = append(bytes, byte(n>>(byteBits*i)))
	}
	return bytes
}

// numbers that bytes are, one of so many bytes behind the other; false, if there are not just as many.
func numbers(bytes []byte, widths []int) ([]int, bool) {
	var out []int
	for _, wide := range widths {
		if len(bytes) < wide {
			return nil, false
		}
		out = append(out, number(bytes[:wide]))
		bytes = bytes[wide:]
	}
	return out, len(bytes) == 0
}
