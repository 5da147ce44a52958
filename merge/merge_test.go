package merge_test

import (
	"math/rand"
	"slices"
	"strings"
	"testing"

	"copydesk/api"
	"copydesk/block"
	"copydesk/merge"
)

// version returns the block with the ID in one of four versions, of which no two are the same.
func version(id int, v int) api.Block {
	switch v {
	case 0:
		return api.Block{ID: id, Kind: api.BParagraph, Text: "-"}
	case 1:
		return api.Block{ID: id, Kind: api.BParagraph, Text: "-", Label: api.Label{After: []int{3, 4}}}
	case 2:
		return api.Block{ID: id, Kind: api.BHeading, Text: "-", Label: api.Label{Until: 1}}
	}
	return api.Block{ID: id, Kind: api.BQuote, Text: "-", Story: 1, Ref: 2}
}

// list returns blocks that are written as in the document: an ID, and a mark for each version after the first.
func list(s string) []api.Block {
	var l []api.Block
	for _, w := range strings.Fields(s) {
		id := 0
		for _, c := range strings.TrimRight(w, "'") {
			id = 10*id + int(c-'0')
		}
		l = append(l, version(id, strings.Count(w, "'")))
	}
	return l
}

// someList returns a valid list of blocks with IDs up to a limit and in so many versions.
func someList(r *rand.Rand, ids int, versions int) []api.Block {
	var l []api.Block
	for _, id := range r.Perm(ids)[:r.Intn(ids+1)] {
		l = append(l, version(id+1, r.Intn(versions)))
	}
	return l
}

// edited returns a list that is made from base by a few changes.
func edited(r *rand.Rand, base []api.Block, ids int) []api.Block {
	l := slices.Clone(base)
	for range r.Intn(4) {
		i, id := r.Intn(len(l)+1), 1+r.Intn(ids)
		switch r.Intn(4) {
		case 0:
			if find(l, id) == nil {
				l = slices.Insert(l, i, version(id, r.Intn(4)))
			}
		case 1:
			if i < len(l) {
				l = slices.Delete(l, i, i+1)
			}
		case 2:
			if i < len(l) {
				l[i] = version(l[i].ID, r.Intn(4))
			}
		case 3:
			if i < len(l) {
				b := l[i]
				l = slices.Delete(l, i, i+1)
				l = slices.Insert(l, r.Intn(len(l)+1), b)
			}
		}
	}
	return l
}

// allLists returns all lists of blocks with the IDs 1 to ids, in the given number of versions.
func allLists(ids int, versions int) [][]api.Block {
	lists := [][]api.Block{nil}
	for i := 0; i < len(lists); i++ {
		for id := 1; id <= ids; id++ {
			for v := 0; v < versions && find(lists[i], id) == nil; v++ {
				lists = append(lists, append(slices.Clone(lists[i]), version(id, v)))
			}
		}
	}
	return lists
}

// find returns the block of l with the ID, or nil.
func find(l []api.Block, id int) *api.Block {
	for i := range l {
		if l[i].ID == id {
			return &l[i]
		}
	}
	return nil
}

// equal reports whether x and y are both none or the same block.
func equal(x *api.Block, y *api.Block) bool {
	if x == nil || y == nil {
		return x == nil && y == nil
	}
	return block.Same(*x, *y)
}

// specified does what the section Merge says, rule by rule, for valid lists.
func specified(base []api.Block, a []api.Block, b []api.Block) ([]api.Block, []int, api.Errno) {
	kept := map[int]*api.Block{}
	var conflicts []int
	for _, id := range allIDs(base, a, b) {
		x, y, z := find(base, id), find(a, id), find(b, id)
		switch {
		case equal(y, x):
			kept[id] = z
		case equal(z, x), equal(z, y):
			kept[id] = y
		default:
			conflicts = append(conflicts, id)
			kept[id] = z
			if z == nil {
				kept[id] = y
			}
		}
	}
	leading, following := a, b
	if moved(b, base) {
		leading, following = b, a
	}
	var l []api.Block
	for _, k := range leading {
		if kept[k.ID] != nil {
			l = append(l, *kept[k.ID])
		}
	}
	for i, k := range following {
		if kept[k.ID] == nil || find(leading, k.ID) != nil {
			continue
		}
		at := 0
		for _, before := range following[:i] {
			if kept[before.ID] != nil {
				at = 1 + slices.IndexFunc(l, func(m api.Block) bool { return m.ID == before.ID })
			}
		}
		l = slices.Insert(l, at, *kept[k.ID])
	}
	if len(l) > 24 {
		return nil, nil, api.ErrMerge
	}
	return l, conflicts, api.OK
}

// allIDs returns the ascending IDs of the lists.
func allIDs(lists ...[]api.Block) []int {
	var ids []int
	for _, l := range lists {
		for _, b := range l {
			ids = append(ids, b.ID)
		}
	}
	slices.Sort(ids)
	return slices.Compact(ids)
}

// moved reports whether l has moved blocks of base, by comparing all pairs.
func moved(l []api.Block, base []api.Block) bool {
	for i := range l {
		for j := range i {
			at := func(k int) int {
				return slices.IndexFunc(base, func(b api.Block) bool { return b.ID == l[k].ID })
			}
			if at(i) >= 0 && at(j) > at(i) {
				return true
			}
		}
	}
	return false
}

// shown writes l in the way of the document.
func shown(l []api.Block) string {
	var s strings.Builder
	for _, b := range l {
		s.WriteByte(' ')
		for _, c := range []int{b.ID / 100, b.ID / 10 % 10, b.ID % 10} {
			s.WriteByte(byte('0' + c))
		}
		for v := 0; v < 4 && !block.Same(b, version(b.ID, v)); v++ {
			s.WriteByte('\'')
		}
	}
	return s.String()
}

// checkMerge checks one call against what is specified.
func checkMerge(t *testing.T, base []api.Block, a []api.Block, b []api.Block) {
	t.Helper()
	l, conflicts, err := merge.Merge(base, a, b)
	wantList, wantConflicts, wantErr := specified(base, a, b)
	if err != wantErr || !block.SameList(l, wantList) || !slices.Equal(conflicts, wantConflicts) {
		t.Fatalf("Merge(%s |%s |%s) =%s, %v, error %d; want%s, %v, error %d", shown(base), shown(a), shown(b), shown(l), conflicts, err, shown(wantList), wantConflicts, wantErr)
	}
}

// P4.1: the examples of the chapter, and others of the same kind.
func TestMergeOfTheExamples(t *testing.T) {
	for _, x := range []struct {
		base, a, b, want string
		conflicts        []int
	}{
		{"1 2 3", "1 2' 3", "1 2 3 4", "1 2' 3 4", nil},
		{"1 2 3", "1 2' 3", "1 2'' 3", "1 2'' 3", []int{2}},
		{"1 2 3", "1 2' 3", "1 3", "1 2' 3", []int{2}},
		{"1 2 3", "1 3", "1 2 3", "1 3", nil},
		{"1 2 3", "1 4 2 3", "3 2 1", "3 2 1 4", nil},
		{"1 2", "1 4 2", "1 5 2", "1 5 4 2", nil},
		{"", "", "", "", nil},
		{"1 2", "", "", "", nil},
		{"1 2", "1 2", "", "", nil},
		{"1 2", "", "1 2", "", nil},
		{"", "1", "1", "1", nil},
		{"", "1", "1'", "1'", []int{1}},
		{"1", "1'", "1'", "1'", nil},
		{"1", "", "1'", "1'", []int{1}},
		{"2 1", "2' 1'", "2'' 1''", "2'' 1''", []int{1, 2}},
		// Blocks of the following list come first, in the middle and last.
		{"1 2", "1 2", "5 6 1 7 8 2 9", "5 6 1 7 8 2 9", nil},
		{"1 2", "3 1 2", "5 6 1 2", "5 6 3 1 2", nil},
		// The block before is not in the merged list, so the one before that counts.
		{"1 2 3", "1 3", "1 2 4 3", "1 4 3", nil},
		{"2 3", "3", "2 4 3", "4 3", nil},
		// The block before is one that only the following list has kept, after a conflict.
		{"1 2 3", "3 1", "1 2' 4 3", "3 1 2' 4", []int{2}},
		// If both have moved blocks, b leads.
		{"1 2 3", "3 2 1", "2 1 3", "2 1 3", nil},
		{"1 2 3", "2 4 1 3", "1 3 2", "1 3 2 4", nil},
		// Blocks that base does not have are in a different order, which is no move.
		{"1", "4 5 1", "5 4 1", "4 5 1", nil},
		{"1 2", "4 1 2", "1 2 4", "4 1 2", nil},
	} {
		l, conflicts, err := merge.Merge(list(x.base), list(x.a), list(x.b))
		if !block.SameList(l, list(x.want)) || !slices.Equal(conflicts, x.conflicts) || err != api.OK {
			t.Errorf("Merge(%s | %s | %s) =%s, %v, error %d; want %s, %v", x.base, x.a, x.b, shown(l), conflicts, err, x.want, x.conflicts)
		}
		checkMerge(t, list(x.base), list(x.a), list(x.b))
	}
}

// P4.1: all lists of up to three blocks, and some longer ones.
func TestMergeOfAllSmallLists(t *testing.T) {
	cases(t, checkMerge)
}

// P4.1: lists of more blocks, in more versions, up to those that are too long together.
func TestMergeOfManyLists(t *testing.T) {
	r := rand.New(rand.NewSource(1))
	for i := range 20000 {
		ids := 4 + i%21
		checkMerge(t, someList(r, ids, 4), someList(r, ids, 4), someList(r, ids, 4))
		base := someList(r, ids, 1)
		if len(base) < 20 {
			checkMerge(t, base, edited(r, base, 40), edited(r, base, 40))
		}
	}
}

// P4.1: the largest IDs, and conflicts in ascending order whatever the order of the blocks.
func TestMergeOfLargeIDs(t *testing.T) {
	checkMerge(t, list("1000 1 999"), list("999' 1000' 1'"), list("1000'' 1'' 999''"))
	_, conflicts, err := merge.Merge(list("1000 1 999"), list("999' 1000' 1'"), list("1000'' 1'' 999''"))
	if !slices.Equal(conflicts, []int{1, 999, 1000}) || err != api.OK {
		t.Error(conflicts, err)
	}
}

// P4.1: a change of any field of a block counts as one.
func TestMergeSeesEveryField(t *testing.T) {
	old := api.Block{ID: 1, Kind: api.BQuote, Text: "a", Story: 1, Ref: 1, Label: api.Label{Until: 1, After: []int{1, 2}, Approvals: 1, Denied: 1}}
	changes := []api.Block{old, old, old, old, old, old, old, old}
	changes[0].Kind, changes[0].Story, changes[0].Ref = api.BHeading, 0, 0
	changes[1].Text = "b"
	changes[2].Story = 2
	changes[3].Ref = 2
	changes[4].Label.Until = 2
	changes[5].Label.After = []int{1, 3}
	changes[6].Label.Approvals = 2
	changes[7].Label.Denied = 2
	for i, c := range changes {
		base, changed := []api.Block{old}, []api.Block{c}
		for _, x := range [][2][]api.Block{{base, changed}, {changed, base}, {changed, changed}} {
			if l, conflicts, err := merge.Merge(base, x[0], x[1]); !block.SameList(l, changed) || len(conflicts) != 0 || err != api.OK {
				t.Error(i, l, conflicts, err)
			}
		}
		for _, d := range changes[:i] {
			if l, conflicts, err := merge.Merge(base, changed, []api.Block{d}); !block.SameList(l, []api.Block{d}) || !slices.Equal(conflicts, []int{1}) || err != api.OK {
				t.Error(i, l, conflicts, err)
			}
		}
	}
}

// P4.1: nil and empty labels are the same, so that there is no change.
func TestMergeOfEmptyAfter(t *testing.T) {
	x, y := list("1"), list("1")
	y[0].Label.After = []int{}
	for _, l := range [][3][]api.Block{{x, y, list("1'")}, {y, x, list("1'")}, {x, list("1'"), y}, {y, list("1'"), x}} {
		if got, conflicts, err := merge.Merge(l[0], l[1], l[2]); !block.SameList(got, list("1'")) || len(conflicts) != 0 || err != api.OK {
			t.Error(got, conflicts, err)
		}
	}
}
