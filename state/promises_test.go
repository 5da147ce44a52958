package state_test

import (
	"slices"
	"testing"

	"copydesk/api"
	"copydesk/block"
	"copydesk/state"
)

// P7.2: some kinds of facts, and unknown kinds, change nothing, wherever they occur.
func TestKindsWithoutEffect(t *testing.T) {
	m := newMaker(5)
	for range 4000 {
		l := m.facts(20)
		before := state.Fold(l)
		for _, kind := range []int{api.FApprove, api.FPartner, api.FLease, api.FGone, 0, -1, 11, 1000} {
			f := m.fact(m.Intn(50))
			f.Kind = kind
			more := slices.Insert(slices.Clone(l), m.Intn(len(l)+1), f)
			if !sameState(state.Fold(more), before) {
				t.Fatalf("%+v changes the state of %+v", f, l)
			}
		}
	}
}

// movedToEnd returns l with the facts for which is holds at its end.
func movedToEnd(l []api.Fact, is func(f api.Fact) bool) []api.Fact {
	rest := those(l, func(f api.Fact) bool { return !is(f) })
	return append(rest, those(l, is)...)
}

// P7.2: the facts of a story can be moved to the end.
func TestStoriesAreIndependent(t *testing.T) {
	m := newMaker(6)
	for range 4000 {
		l := m.facts(30)
		before := state.Fold(l)
		for _, id := range storyPool {
			moved := movedToEnd(l, func(f api.Fact) bool { return f.Story == id && f.Kind != api.FTemplate })
			if !sameState(state.Fold(moved), before) {
				t.Fatalf("moving the facts of story %d changes the state of %+v", id, l)
			}
		}
	}
}

// P7.2: a story is the same without the facts of other stories.
func TestOtherStories(t *testing.T) {
	m := newMaker(7)
	for range 4000 {
		l := m.facts(30)
		s := state.Fold(l)
		for _, id := range storyPool {
			alone := state.Fold(ofStory(l, id))
			alone.Templates = nil
			var want api.State
			if x, found := findIn(s, id); found {
				want.Stories = append(want.Stories, x)
			}
			if !sameState(alone, want) {
				t.Fatalf("story %d of %+v: %+v", id, l, alone)
			}
		}
	}
}

// P7.3: a further fact removes nothing, and decreases no Rev.
func TestFurtherFact(t *testing.T) {
	m := newMaker(8)
	for range 4000 {
		l := m.facts(20)
		before := state.Fold(l)
		f := m.fact(50)
		after := state.Fold(append(slices.Clone(l), f))
		for _, x := range before.Stories {
			y, found := findIn(after, x.ID)
			if !found || x.Published != y.Published {
				t.Fatalf("%+v removes story %d of %+v", f, x.ID, l)
			}
			for _, e := range x.Editions {
				now, found := editionIn(after, x.ID, e.Lang)
				takesDown := f.Kind == api.FTakedown && f.Story == x.ID
				if found == takesDown || found && now.Rev < e.Rev {
					t.Fatalf("%+v changes story %d of %+v to %+v", f, x.ID, l, after)
				}
			}
		}
		for _, x := range before.Templates {
			if !slices.ContainsFunc(after.Templates, func(y api.Template) bool { return x.Name == y.Name }) {
				t.Fatalf("%+v removes template %q of %+v", f, x.Name, l)
			}
		}
	}
}

// P7.3: nothing remains of a story that was taken down, wherever the take-down occurs.
func TestTakeDown(t *testing.T) {
	m := newMaker(9)
	for range 4000 {
		l := m.facts(20)
		before := state.Fold(l)
		id := oneOf(m, storyPool)
		after := state.Fold(slices.Insert(slices.Clone(l), m.Intn(len(l)+1), takeDown(id)))
		for i, x := range before.Stories {
			if x.ID == id {
				before.Stories[i] = api.Story{ID: id, Published: x.Published, Taken: true}
			}
		}
		if !sameState(after, before) {
			t.Fatalf("taking down story %d of %+v gives %+v", id, l, after)
		}
	}
}

// P7.4: moving the corrections to the end changes nothing but the Changed of editions.
func TestCorrectionsFollow(t *testing.T) {
	m := newMaker(10)
	for range 8000 {
		l := m.facts(30)
		before := state.Fold(l)
		after := state.Fold(movedToEnd(l, func(f api.Fact) bool { return f.Kind == api.FCorrect }))
		for _, s := range []api.State{before, after} {
			for _, x := range s.Stories {
				for i := range x.Editions {
					x.Editions[i].Changed = 0
				}
			}
		}
		if !sameState(before, after) {
			t.Fatalf("moving the corrections of %+v to the end gives %+v, not %+v", l, after, before)
		}
	}
}

// P7.4: whoever quotes a corrected block shows the corrected text, directly and by way of another quote.
func TestQuotesOfCorrections(t *testing.T) {
	l := []api.Fact{
		publish(1, 1), publish(2, 2), publish(3, 3),
		revise(4, 1, "en", 1, 0, paragraph(1, "It rained. It stoped.")),
		revise(5, 2, "en", 1, 0, quote(1, 1, 1)),
		revise(6, 3, "en", 1, 0, quote(1, 2, 1)),
		correct(7, 1, "en", 1, 1, "It stopped."),
	}
	for i := range 3 {
		if got := state.Resolve(state.Fold(l), "en", quote(9, 1+i, 1)); got != "It rained. It stopped." {
			t.Errorf("%d: %q", i, got)
		}
	}
	for id, want := range map[int]string{2: "Rain\n\"It rained. It stopped.\"\n", 3: "Rain\n\"It rained. It stopped.\"\n"} {
		if got, _ := state.Text(state.Fold(l), id, "en"); got != want {
			t.Errorf("%d: %q", id, got)
		}
	}
}

// P7.4: if each revision is based on the one before it, the blocks are those of the last one.
func TestRevisionsInOrder(t *testing.T) {
	m := newMaker(11)
	for range 4000 {
		l := those(m.facts(30), func(f api.Fact) bool { return f.Kind != api.FCorrect && f.Kind != api.FTakedown })
		last := map[int]map[string]api.Fact{}
		for i, f := range l {
			if f.Kind != api.FRevise {
				continue
			}
			if last[f.Story] == nil {
				last[f.Story] = map[string]api.Fact{}
			}
			if before, exists := last[f.Story][f.Lang]; exists {
				l[i].Base = before.Rev
			}
			last[f.Story][f.Lang] = l[i]
		}
		s := state.Fold(l)
		for _, x := range s.Stories {
			if len(x.Editions) != len(last[x.ID]) {
				t.Fatalf("story %d of %+v: %+v", x.ID, l, x)
			}
			for _, e := range x.Editions {
				if !block.SameList(e.Blocks, last[x.ID][e.Lang].Blocks) {
					t.Fatalf("story %d of %+v: %+v", x.ID, l, e)
				}
			}
		}
	}
}
