package cluster

import "rubricator/props"

// kind is a code point's break.
type kind int

const (
	other kind = iota
	cr
	lf
	control
	lead
	vowel
	tail
	open   // a syllable of lead and vowel
	closed // a syllable with a tail
	extend
	joiner
	spacing
	prepend
	picture
	flag
)

// pair is the kinds of what stands ahead of a place, and behind it.
type pair struct{ ahead, behind kind }

// syllables is the pairs that stand within one syllable.
var syllables = [...]pair{
	{lead, lead}, {lead, vowel}, {lead, open}, {lead, closed},
	{open, vowel}, {open, tail}, {vowel, vowel}, {vowel, tail},
	{closed, tail}, {tail, tail},
}

// kindOf is the kind of what the tables tell of a code point.
func kindOf(t *props.Tables, r int) kind {
	switch t.Cluster(r) {
	case "CR":
		return cr
	case "LF":
		return lf
	case "Control":
		return control
	case "L":
		return lead
	case "V":
		return vowel
	case "T":
		return tail
	case "LV":
		return open
	case "LVT":
		return closed
	case "Extend":
		return extend
	case "ZWJ":
		return joiner
	case "SpacingMark":
		return spacing
	case "Prepend":
		return prepend
	case "Pictographic":
		return picture
	case "Flag":
		return flag
	}
	return other
}

// alone tells whether nothing stands in one cluster with such a one, CR and LF aside.
func (k kind) alone() bool { return k == cr || k == lf || k == control }

// trails tells whether such a one goes with what stands ahead of it.
func (k kind) trails() bool { return k == extend || k == joiner || k == spacing }

func (p pair) inSyllable() bool {
	for _, s := range syllables {
		if s == p {
			return true
		}
	}
	return false
}
