package edit

import "rubricator/api"

// lies tells whether a span stands between two places, not falling.
func lies(s api.Span, from, to int) bool {
	return from <= s.Start && s.Start <= s.End && s.End <= to
}

// apart tells whether spans stand in bytes of a size, each behind the one ahead of it, or at its end.
func apart(l []api.Span, size int) bool {
	end := 0
	for _, s := range l {
		if !lies(s, end, size) {
			return false
		}
		end = s.End
	}
	return true
}

// canBe tells whether these may be matches in bytes of a size.
func canBe(l []api.Found, size int) bool {
	firsts := make([]api.Span, len(l))
	for i, f := range l {
		if len(f.Spans) == 0 || !groupsLie(f.Spans[1:], size) {
			return false
		}
		firsts[i] = f.Spans[0]
	}
	return apart(firsts, size)
}

// groupsLie tells whether each of a match's groups has bytes of those of a size, or none.
func groupsLie(l []api.Span, size int) bool {
	none := api.Span{Start: -1, End: -1}
	for _, s := range l {
		if s != none && !lies(s, 0, size) {
			return false
		}
	}
	return true
}

// expand lays what a template comes to behind other bytes.
func expand(out []byte, l []Part, b []byte, f api.Found) []byte {
	for _, p := range l {
		if p.A == text {
			out = append(out, p.Text...)
		} else {
			out = append(out, bytesOf(p.A, b, f)...)
		}
	}
	return out
}

// bytesOf is a group's bytes; nothing, if it has none.
func bytesOf(group int, b []byte, f api.Found) []byte {
	if group < 0 || group >= len(f.Spans) || !lies(f.Spans[group], 0, len(b)) {
		return nil
	}
	return b[f.Spans[group].Start:f.Spans[group].End]
}
