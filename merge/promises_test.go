package merge_test

import (
	"math/rand"
	"slices"
	"testing"

	"copydesk/api"
	"copydesk/block"
	"copydesk/merge"
)

// cases calls check with all lists of up to three blocks, and with many longer ones that can be merged. In the short lists, names do not matter: base has the IDs from 1 on and the first versions, and there are two other versions.
func cases(t *testing.T, check func(t *testing.T, base []api.Block, a []api.Block, b []api.Block)) {
	lists := allLists(3, 3)
	for n := range 4 {
		for _, a := range lists {
			for _, b := range lists {
				check(t, numbered(1, n), a, b)
			}
		}
	}
	r := rand.New(rand.NewSource(2))
	for i := range 20000 {
		ids := 4 + i%9
		check(t, someList(r, ids, 4), someList(r, ids, 4), someList(r, ids, 4))
		base := someList(r, ids, 4)
		check(t, base, edited(r, base, 20), edited(r, base, 20))
	}
}

// merged returns the results of a call that must succeed.
func merged(t *testing.T, base []api.Block, a []api.Block, b []api.Block) ([]api.Block, []int) {
	t.Helper()
	l, conflicts, err := merge.Merge(base, a, b)
	if err != api.OK {
		t.Fatalf("Merge(%s |%s |%s): error %d", shown(base), shown(a), shown(b), err)
	}
	return l, conflicts
}

// sameBlocks reports whether a and b have the same blocks in any order.
func sameBlocks(a []api.Block, b []api.Block) bool {
	for _, x := range a {
		if !equal(&x, find(b, x.ID)) {
			return false
		}
	}
	return len(a) == len(b)
}

// P4.2: if one list is unchanged, or both are the same, the result is the list that was changed.
func TestOneChange(t *testing.T) {
	check := func(base []api.Block, l []api.Block) {
		for _, x := range [][2][]api.Block{{base, l}, {l, base}, {l, l}} {
			if got, conflicts := merged(t, base, x[0], x[1]); !block.SameList(got, l) || len(conflicts) != 0 {
				t.Fatalf("Merge(%s |%s |%s) =%s, %v", shown(base), shown(x[0]), shown(x[1]), shown(got), conflicts)
			}
		}
	}
	lists := allLists(4, 1)
	lists = append(lists, allLists(3, 2)...)
	for _, base := range lists {
		for _, l := range lists {
			check(base, l)
		}
	}
	r := rand.New(rand.NewSource(3))
	for range 5000 {
		base := someList(r, 24, 2)
		check(base, someList(r, 24, 2))
		check(base, someList(r, 24, 1))
		if len(base) <= 20 {
			check(base, edited(r, base, 30))
		}
	}
}

// P4.3: the merged list is valid, consists of blocks of a and b, and contains what all three lists have.
func TestContents(t *testing.T) {
	cases(t, func(t *testing.T, base []api.Block, a []api.Block, b []api.Block) {
		l, _ := merged(t, base, a, b)
		if !block.ValidList(l) {
			t.Fatalf("Merge(%s |%s |%s) is not valid:%s", shown(base), shown(a), shown(b), shown(l))
		}
		for _, x := range l {
			if !equal(&x, find(a, x.ID)) && !equal(&x, find(b, x.ID)) {
				t.Fatalf("Merge(%s |%s |%s) =%s: %d is new", shown(base), shown(a), shown(b), shown(l), x.ID)
			}
		}
		for _, x := range base {
			if equal(&x, find(a, x.ID)) && equal(&x, find(b, x.ID)) && !equal(&x, find(l, x.ID)) {
				t.Fatalf("Merge(%s |%s |%s) =%s: %d is missing", shown(base), shown(a), shown(b), shown(l), x.ID)
			}
		}
	})
}

// P4.3: the conflicts are the IDs whose three blocks are pairwise different, ascending.
func TestConflicts(t *testing.T) {
	cases(t, func(t *testing.T, base []api.Block, a []api.Block, b []api.Block) {
		var want []int
		for _, id := range allIDs(base, a, b) {
			x, y, z := find(base, id), find(a, id), find(b, id)
			if !equal(x, y) && !equal(x, z) && !equal(y, z) {
				want = append(want, id)
			}
		}
		if _, conflicts := merged(t, base, a, b); !slices.Equal(conflicts, want) {
			t.Fatalf("Merge(%s |%s |%s): conflicts %v, want %v", shown(base), shown(a), shown(b), conflicts, want)
		}
	})
}

// P4.4: without conflicts, neither an exchange of the lists nor another merge changes the blocks.
func TestExchange(t *testing.T) {
	cases(t, func(t *testing.T, base []api.Block, a []api.Block, b []api.Block) {
		l, conflicts := merged(t, base, a, b)
		if len(conflicts) > 0 {
			return
		}
		for _, x := range [][2][]api.Block{{b, a}, {l, a}, {l, b}, {a, l}, {b, l}} {
			if other, conflicts := merged(t, base, x[0], x[1]); !sameBlocks(other, l) || len(conflicts) != 0 {
				t.Fatalf("base%s, lists%s and%s: merged%s; then%s and%s:%s, %v", shown(base), shown(a), shown(b), shown(l), shown(x[0]), shown(x[1]), shown(other), conflicts)
			}
		}
	})
}

// P4.5: the merged list keeps the orders of both lists if they do not contradict each other.
func TestOrder(t *testing.T) {
	cases(t, func(t *testing.T, base []api.Block, a []api.Block, b []api.Block) {
		if moved(a, b) {
			return
		}
		if l, _ := merged(t, base, a, b); moved(l, a) || moved(l, b) {
			t.Fatalf("Merge(%s |%s |%s) =%s", shown(base), shown(a), shown(b), shown(l))
		}
	})
}
