package merge

import (
	"slices"

	"copydesk/api"
)

// hasMoved reports whether two IDs that occur in l and in base are in different order there.
func hasMoved(l []api.Block, base []api.Block) bool {
	places := byID(base, place)
	last := 0
	for _, b := range l {
		at, occurs := places[b.ID]
		if !occurs {
			continue
		}
		// The places ascend unless two blocks that follow each other have changed their order.
		if at < last {
			return true
		}
		last = at
	}
	return false
}

// inOrder returns the merged blocks in the order that the leading and the following list determine.
func inOrder(merged map[int]api.Block, leading []api.Block, following []api.Block) []api.Block {
	var order []int
	for _, b := range leading {
		if _, occurs := merged[b.ID]; occurs {
			order = append(order, b.ID)
		}
	}
	// Whatever comes next in the following list belongs directly after the block of the merged list that came last there.
	next := 0
	for _, b := range following {
		if at := slices.Index(order, b.ID); at >= 0 {
			next = at + 1
		} else if _, occurs := merged[b.ID]; occurs {
			order = slices.Insert(order, next, b.ID)
			next++
		}
	}
	var l []api.Block
	for _, id := range order {
		l = append(l, detached(merged[id]))
	}
	return l
}

// detached returns b with new memory, since it comes from an argument.
func detached(b api.Block) api.Block {
	b.Label.After = append([]int(nil), b.Label.After...)
	return b
}
