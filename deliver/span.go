package deliver

// span of bytes, from the first one up to the second, which is not of it. As a gap the empty one at 0 asks for the Meta.
type span = [2]int

// gapsMayBe of a file of so many bytes.
func gapsMayBe(gaps []span, size int) bool {
	for _, g := range gaps {
		if !spanMayBe(g, size) && g != (span{}) {
			return false
		}
	}
	return true
}

// spanMayBe: has it bytes, and all of them within so many?
func spanMayBe(s span, size int) bool { return 0 <= s[0] && s[0] < s[1] && s[1] <= size }

// spansMayBe: do they rise, none touching the next one, within a file's most bytes?
func spansMayBe(spans []span, size int) bool {
	for i, s := range spans {
		if !spanMayBe(s, size) || i > 0 && s[0] <= spans[i-1][1] {
			return false
		}
	}
	return true
}

// reach: behind the last byte that rising spans tell.
func reach(spans []span) int {
	if len(spans) == 0 {
		return 0
	}
	return spans[len(spans)-1][1]
}

// untold: the longest rows of bytes within a span that rising spans do not tell.
func untold(spans []span, in span) []span {
	var out []span
	at := in[0]
	for _, s := range spans {
		if row := (span{at, min(s[0], in[1])}); row[0] < row[1] {
			out = append(out, row)
		}
		at = max(at, s[1])
	}
	if at < in[1] {
		out = append(out, span{at, in[1]})
	}
	return out
}

// with one span more, which is joined with those that it meets or touches.
func with(spans []span, more span) []span {
	var low, high []span
	for _, s := range spans {
		switch {
		case s[1] < more[0]:
			low = append(low, s)
		case s[0] > more[1]:
			high = append(high, s)
		default:
			more = span{min(s[0], more[0]), max(s[1], more[1])}
		}
	}
	return append(append(low, more), high...)
}
