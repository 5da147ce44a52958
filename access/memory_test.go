package access_test

import (
	"slices"
	"testing"

	"copydesk/access"
	"copydesk/api"
	"copydesk/fact"
)

// roomy returns a copy of l with spare room in all lists.
func roomy(l []api.Fact) []api.Fact {
	copied := append(make([]api.Fact, 0, len(l)+3), l...)
	for i, f := range copied {
		copied[i].Topics = append(make([]string, 0, 9), f.Topics...)
		copied[i].Label.After = append(make([]int, 0, 70), f.Label.After...)
		copied[i].Blocks = append(make([]api.Block, 0, 30), f.Blocks...)
		for k, b := range copied[i].Blocks {
			copied[i].Blocks[k].Label.After = append(make([]int, 0, 70), b.Label.After...)
		}
	}
	return copied
}

// whole returns the log with all of the spare room of its lists.
func whole(l []api.Fact) []api.Fact {
	all := slices.Clone(l[:cap(l)])
	for i, f := range all {
		all[i].Topics = f.Topics[:cap(f.Topics)]
		all[i].Label.After = f.Label.After[:cap(f.Label.After)]
		all[i].Blocks = slices.Clone(f.Blocks[:cap(f.Blocks)])
		for k, b := range all[i].Blocks {
			all[i].Blocks[k].Label.After = b.Label.After[:cap(b.Label.After)]
		}
	}
	return all
}

// scribble overwrites all memory of the log, including the spare room.
func scribble(l []api.Fact) {
	for _, f := range l {
		for _, label := range append([]api.Block{{Label: f.Label}}, f.Blocks...) {
			after := label.Label.After[:cap(label.Label.After)]
			for i := range after {
				after[i] = -77
			}
		}
		topics, blocks := f.Topics[:cap(f.Topics)], f.Blocks[:cap(f.Blocks)]
		for i := range topics {
			topics[i] = "scribble"
		}
		for i := range blocks {
			blocks[i] = api.Block{ID: -77}
		}
	}
	l = l[:cap(l)]
	for i := range l {
		l[i] = api.Fact{N: -77}
	}
}

// P6.1: arguments are not changed, and results are new memory.
func TestMemory(t *testing.T) {
	m := newMaker(9)
	for range 500 {
		l := roomy(m.spoiledLog(15))
		before := whole(roomy(l))
		class, now := m.classAndTime()
		out, one, two := access.Out(l, class, now), access.Visible(l, class, now), access.Visible(l, class, now)
		access.Next(l, class, now)
		want := roomy(one)
		scribble(one)
		if !fact.SameList(two, want) || !fact.SameList(whole(l), before) {
			t.Fatal("a result shares memory with the argument or with another result, or the argument was changed")
		}
		ids := slices.Clone(out)
		out = out[:cap(out)]
		for i := range out {
			out[i] = -77
		}
		checkOut(t, l, class, now, ids...)
		scribble(l)
		if !fact.SameList(two, want) {
			t.Fatal("a result shares memory with the argument")
		}
		checkApart(t, two)
	}
}

// checkApart checks that no two facts of a result share memory: overwriting all of one changes no other one.
func checkApart(t *testing.T, l []api.Fact) {
	t.Helper()
	for i := range l {
		rest := roomy(l[i+1:])
		scribble(slices.Clone(l[i : i+1]))
		if !fact.SameList(l[i+1:], rest) {
			t.Fatal("two facts of a result share memory")
		}
	}
}

// P6.1: facts that share their lists in the log do not share them in the result.
func TestSharedLists(t *testing.T) {
	f := revise(1, "en", 1, 0, open, heading(1, open))
	template := api.Fact{Kind: api.FTemplate, Name: "front", Topics: f.Topics[:0], Blocks: f.Blocks[:0]}
	l := []api.Fact{publish(1, open), f, f, template}
	seen := access.Visible(l, 0, 0)
	checkApart(t, seen)
	scribble(seen[3:])
	if !fact.SameList(l, []api.Fact{publish(1, open), revise(1, "en", 1, 0, open, heading(1, open)), revise(1, "en", 1, 0, open, heading(1, open)), template}) {
		t.Errorf("the result shares memory with the argument: %v", l)
	}
}
