package tree

import (
	"rubricator/api"
	"rubricator/token"
)

// fields is which fields, beside Kind, a node has. None has a Set: no pattern says one.
type fields uint

const (
	hasMode fields = 1 << iota
	hasA
	hasB
	hasNeg
	hasName
	hasKids
)

// fieldsOf is the fields that a kind of nodes has.
func fieldsOf(kind int) fields {
	switch kind {
	case api.NodeChar, api.NodeBack:
		return hasA
	case api.NodeClass:
		return hasMode | hasNeg | hasKids
	case api.NodeRange:
		return hasA | hasB
	case api.NodeProp:
		return hasName | hasNeg
	case api.NodeSeq, api.NodeAlt, api.NodeAtomic:
		return hasKids
	case api.NodeRepeat:
		return hasMode | hasA | hasB | hasKids
	case api.NodeGroup:
		return hasA | hasName | hasKids
	case api.NodeLook:
		return hasMode | hasKids
	case api.NodeAssert:
		return hasMode
	}
	return 0
}

// othersZero tells whether only those fields of a node that its kind has say something.
func othersZero(n api.Node) bool {
	own := fieldsOf(n.Kind)
	may := func(f fields) bool { return own&f != 0 }
	return len(n.Set) == 0 &&
		(n.Mode == 0 || may(hasMode)) &&
		(n.A == 0 || may(hasA)) &&
		(n.B == 0 || may(hasB)) &&
		(!n.Neg || may(hasNeg)) &&
		(n.Name == "" || may(hasName)) &&
		(len(n.Kids) == 0 || may(hasKids))
}

// repeatable tells whether parts of a kind may be repeated.
func repeatable(kind int) bool {
	switch kind {
	case api.NodeChar, api.NodeAny, api.NodeClass, api.NodeProp, api.NodeGroup, api.NodeAtomic, api.NodeBack, api.NodeCluster:
		return true
	}
	return false
}

// named tells whether a text is one token of that name: what names may be is layer 13's to say.
func named(text, name string) bool {
	l, fault := token.Scan([]byte(text))
	return fault.Code == api.OK && len(l) == 1 && l[0].Name == name
}
