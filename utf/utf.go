// Package utf is layer 1, bytes as items: see ../../shared/doc/01-utf.md.
package utf

import (
	"rubricator/api"
)

const (
	replacement = 0xfffd // what a malformed part stands for
	maxSize     = 4      // bytes of the longest item

	tailLo   = 0x80 // the bytes behind a first one, unless secondBounds narrows them
	tailHi   = 0xbf
	tailBits = 6
	tailMask = 1<<tailBits - 1
)

// firstMarks is the upper bits of the first byte, by the number of bytes.
var firstMarks = [maxSize + 1]byte{2: 0xc0, 3: 0xe0, 4: 0xf0}

// Decode is the items of bytes, one behind the other; each malformed part is one of them.
func Decode(b []byte) []api.Item {
	var out []api.Item
	for at := 0; at < len(b); {
		x, _ := itemAt(b, at)
		out = append(out, x)
		at = x.End
	}
	return out
}

// Encode is the bytes of a code point that is no surrogate.
func Encode(r int) ([]byte, bool) {
	size := sizeOf(r)
	if size == 0 {
		return nil, false
	}
	b := make([]byte, size)
	switch size {
	case 4:
		b[3] = tailOf(r)
		r >>= tailBits
		fallthrough
	case 3:
		b[2] = tailOf(r)
		r >>= tailBits
		fallthrough
	case 2:
		b[1] = tailOf(r)
		r >>= tailBits
	}
	b[0] = firstMarks[size] | byte(r)
	return b, true
}

// Valid tells whether all of the bytes are well-formed.
func Valid(b []byte) bool {
	for at := 0; at < len(b); {
		x, ok := itemAt(b, at)
		if !ok {
			return false
		}
		at = x.End
	}
	return true
}

// Next is the item at a place.
func Next(b []byte, at int) (api.Item, bool) {
	if at < 0 || at >= len(b) {
		return api.Item{}, false
	}
	x, _ := itemAt(b, at)
	return x, true
}

// Prev is the last item of the bytes ahead of a place.
func Prev(b []byte, at int) (api.Item, bool) {
	if at < 1 || at > len(b) {
		return api.Item{}, false
	}
	ahead := b[:at]
	x, _ := itemAt(ahead, lastEdge(ahead))
	for x.End < len(ahead) {
		x, _ = itemAt(ahead, x.End)
	}
	return x, true
}

// itemAt is the item at a place within b, and whether it is well-formed (an item fffd may be either).
func itemAt(b []byte, at int) (api.Item, bool) {
	size, r := headOf(b[at])
	end := at + 1
	if size == 0 {
		return api.Item{R: replacement, Start: at, End: end}, false
	}
	lo, hi := secondBounds(b[at])
	for end-at < size {
		if end == len(b) || b[end] < lo || b[end] > hi {
			return api.Item{R: replacement, Start: at, End: end}, false
		}
		r = r<<tailBits | int(b[end]&tailMask)
		end++
		lo, hi = tailLo, tailHi
	}
	return api.Item{R: r, Start: at, End: end}, true
}

// headOf is how many bytes a first byte asks for, and its bits of the code point; size 0, if nothing well-formed begins with it.
func headOf(first byte) (size, bits int) {
	switch {
	case first <= 0x7f:
		return 1, int(first)
	case first >= 0xc2 && first <= 0xdf:
		return 2, int(first & 0x1f)
	case first >= 0xe0 && first <= 0xef:
		return 3, int(first & 0x0f)
	case first >= 0xf0 && first <= 0xf4:
		return 4, int(first & 0x07)
	}
	return 0, 0
}

// secondBounds keeps a second byte from making what fewer bytes would do for, a surrogate, or a number above MaxRune.
func secondBounds(first byte) (lo, hi byte) {
	switch first {
	case 0xe0:
		return 0xa0, tailHi
	case 0xed:
		return tailLo, 0x9f
	case 0xf0:
		return 0x90, tailHi
	case 0xf4:
		return tailLo, 0x8f
	}
	return tailLo, tailHi
}

// lastEdge is a place near the end of b, which is not empty, from which reading on ends with b's last item. At a byte that is no tail an item always begins; where the last maxSize bytes are all tails, the last one is out of reach of any first byte, and so an item of its own either way.
func lastEdge(b []byte) int {
	at := len(b) - 1
	for at > 0 && len(b)-at < maxSize && isTail(b[at]) {
		at--
	}
	return at
}

func isTail(c byte) bool { return c >= tailLo && c <= tailHi }

func tailOf(r int) byte { return tailLo | byte(r&tailMask) }

// sizeOf is how many bytes a code point takes; 0, if r is none, or a surrogate.
func sizeOf(r int) int {
	switch {
	case r < 0 || r > api.MaxRune || r >= 0xd800 && r <= 0xdfff:
		return 0
	case r <= 0x7f:
		return 1
	case r <= 0x7ff:
		return 2
	case r <= 0xffff:
		return 3
	}
	return 4
}
