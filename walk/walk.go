// Package walk goes through trees, for the layers that make something of each node.
package walk

import "rubricator/api"

// Up is what a tree comes to. On the way down enter says of each node, which has so many above it, whether its kids are gone through; on the way back join makes of the node, and of what these kids have come to, in their order, what the node comes to. The list is join's to keep.
func Up[T any](n api.Node, enter func(n api.Node, above int) bool, join func(n api.Node, kids []T) T) T {
	return from(n, 0, enter, join)
}

func from[T any](n api.Node, above int, enter func(n api.Node, above int) bool, join func(n api.Node, kids []T) T) T {
	var kids []T
	if enter(n, above) {
		for _, kid := range n.Kids {
			kids = append(kids, from(kid, above+1, enter, join))
		}
	}
	return join(n, kids)
}
