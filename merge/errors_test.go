package merge_test

import (
	"math"
	"slices"
	"testing"

	"copydesk/api"
	"copydesk/block"
	"copydesk/merge"
)

// numbered returns blocks with so many IDs from the first one on.
func numbered(first int, n int) []api.Block {
	var l []api.Block
	for i := range n {
		l = append(l, version(first+i, 0))
	}
	return l
}

// checkError checks that the three lists are refused, without other results.
func checkError(t *testing.T, base []api.Block, a []api.Block, b []api.Block) {
	t.Helper()
	if l, conflicts, err := merge.Merge(base, a, b); err != api.ErrMerge || len(l) != 0 || len(conflicts) != 0 {
		t.Errorf("Merge(%v, %v, %v) = %v, %v, error %d", base, a, b, l, conflicts, err)
	}
}

// P4.1: each of the three lists must be valid, even if the others make no use of it.
func TestMergeOfInvalidLists(t *testing.T) {
	valid := list("1 2 3")
	for _, bad := range [][]api.Block{
		{{}},
		{{ID: 1}},
		{version(0, 0)},
		{version(-1, 0)},
		{version(1001, 0)},
		{version(math.MaxInt, 0)},
		{version(math.MinInt, 0)},
		list("1 1"),
		list("1 2 1'"),
		{{ID: 1, Kind: api.BHeading}},
		{{ID: 1, Kind: 6, Text: "-"}},
		{{ID: 1, Kind: api.BHeading, Text: "\n"}},
		{{ID: 1, Kind: api.BHeading, Text: "-", Ref: 1}},
		{{ID: 1, Kind: api.BHeading, Text: "-", Label: api.Label{Until: -1}}},
		{{ID: 1, Kind: api.BHeading, Text: "-", Label: api.Label{After: []int{2, 2}}}},
		numbered(1, 25),
		make([]api.Block, 100000),
	} {
		if block.ValidList(bad) {
			t.Fatal("valid:", bad)
		}
		checkError(t, bad, valid, valid)
		checkError(t, valid, bad, valid)
		checkError(t, valid, valid, bad)
		checkError(t, bad, nil, nil)
		checkError(t, nil, bad, nil)
		checkError(t, nil, nil, bad)
		checkError(t, bad, bad, bad)
	}
}

// P4.1: the merged list may have 24 blocks, and not more.
func TestMergeOfLongLists(t *testing.T) {
	for n := range 25 {
		a := numbered(1, n)
		if l, conflicts, err := merge.Merge(nil, a, numbered(101, 24-n)); len(l) != 24 || len(conflicts) != 0 || err != api.OK {
			t.Error(n, len(l), conflicts, err)
		}
		checkMerge(t, nil, a, numbered(101, 24-n))
		if n > 0 {
			checkError(t, nil, a, numbered(101, 25-n))
			// Here b has removed a block of base, so there is room for one more.
			checkMerge(t, a[:1], a, numbered(101, 25-n))
		}
	}
}

// P4.1: it is the merged list that must not be too long; all three lists may have 24 blocks.
func TestMergeOfFullLists(t *testing.T) {
	base := numbered(1, 24)
	removed := append(base[12:24:24], numbered(101, 12)...)
	checkMerge(t, base, base[12:], removed)
	checkMerge(t, base, base, removed)
	checkMerge(t, base, removed, removed)
	checkMerge(t, base, removed, nil)
	// One list has changed a block and the other one has replaced it: the conflict keeps it.
	changed := slices.Clone(base)
	changed[23] = version(24, 1)
	checkError(t, base, changed, append(base[:23:23], version(100, 0)))
	checkMerge(t, base, base, append(base[:23:23], version(100, 0)))
}

// P4.1: a call changes neither its arguments nor their spare capacity, and shares no memory with them.
func TestMergeKeepsItsArguments(t *testing.T) {
	lists := [][]api.Block{list("1 2 3' 4"), list("4 1' 3' 7' 2"), list("8' 2 1 3' 5'' 6'")}
	var roomy [][]api.Block
	for _, l := range lists {
		room := make([]api.Block, len(l), len(l)+30)
		copy(room, l)
		for i := range room {
			if n := len(room[i].Label.After); n > 0 {
				after := make([]int, n, n+5)
				copy(after, room[i].Label.After)
				room[i].Label.After = after
			}
		}
		roomy = append(roomy, room)
	}
	first, conflicts, err := merge.Merge(roomy[0], roomy[1], roomy[2])
	if err != api.OK || len(first) == 0 {
		t.Fatal(err)
	}
	want := list(shown(first))
	for i, l := range roomy {
		if !block.SameList(l, lists[i]) {
			t.Error("changed:", l)
		}
		for _, b := range l[len(l):cap(l)] {
			if !block.Same(b, api.Block{}) {
				t.Error("written to:", b)
			}
		}
		for j := range l {
			after := l[j].Label.After
			for k := range after {
				after[k] = 60
			}
			l[j] = api.Block{ID: 9}
		}
	}
	if !block.SameList(first, want) || len(conflicts) != 0 {
		t.Error("shared:", first)
	}
}

// P4.1: no two slices of a result share memory, and neither do two results.
func TestMergeResultsAreNew(t *testing.T) {
	shared := []int{3, 4, 5}
	l := list("1 2")
	l[0].Label.After, l[1].Label.After = shared[:2], shared[:2]
	for range 2 {
		got, _, err := merge.Merge(l, l, l)
		if err != api.OK || !block.SameList(got, list("1' 2'")) {
			t.Fatal(got, err)
		}
		got[0].Label.After[0] = 1
		got[0].Label.After = append(got[0].Label.After, 9)
		got[0].Text = "x"
		got = append(got, version(3, 0))
		if !slices.Equal(got[1].Label.After, []int{3, 4}) || !slices.Equal(shared, []int{3, 4, 5}) {
			t.Error("shared:", got, shared)
		}
	}
}
