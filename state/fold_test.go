package state_test

import (
	"slices"
	"strings"
	"testing"

	"copydesk/api"
	"copydesk/state"
)

// Facts and blocks of the tests, with the fields that matter.

func publish(n, story int) api.Fact { return api.Fact{N: n, Kind: api.FPublish, Story: story} }

func retract(story int) api.Fact { return api.Fact{Kind: api.FRetract, Story: story, Text: "Wrong."} }

func takeDown(story int) api.Fact { return api.Fact{Kind: api.FTakedown, Story: story} }

func template(name, text string) api.Fact {
	return api.Fact{Kind: api.FTemplate, Name: name, Text: text}
}

func revise(n, story int, lang string, rev, base int, blocks ...api.Block) api.Fact {
	return api.Fact{N: n, Kind: api.FRevise, Story: story, Lang: lang, Rev: rev, Base: base, Title: "Rain", Author: "ann", Topics: []string{"rain"}, Blocks: blocks}
}

func correct(n, story int, lang string, block, sentence int, text string) api.Fact {
	return api.Fact{N: n, Kind: api.FCorrect, Story: story, Lang: lang, Block: block, Sentence: sentence, Text: text}
}

func paragraph(id int, text string) api.Block {
	return api.Block{ID: id, Kind: api.BParagraph, Text: text}
}

func quote(id, story, ref int) api.Block {
	return api.Block{ID: id, Kind: api.BQuote, Text: "own", Story: story, Ref: ref}
}

func count(id int, topic string) api.Block {
	return api.Block{ID: id, Kind: api.BCount, Text: topic}
}

// written returns the blocks as their IDs and texts.
func written(l []api.Block) string {
	var parts []string
	for _, b := range l {
		parts = append(parts, string(rune('0'+b.ID))+b.Text)
	}
	return strings.Join(parts, " ")
}

// theOnly returns the only story of s.
func theOnly(t *testing.T, s api.State) api.Story {
	t.Helper()
	if len(s.Stories) != 1 {
		t.Fatal("not one story:", s)
	}
	return s.Stories[0]
}

// example is the list of facts of the chapter's examples.
func example() []api.Fact {
	return []api.Fact{
		revise(1, 2, "en", 1, 0, paragraph(1, "It rained. It stoped."), count(2, "rain")),
		publish(2, 2),
		correct(3, 2, "en", 1, 1, "It stopped."),
	}
}

// P7.1: the examples of Fold.
func TestExamples(t *testing.T) {
	l := example()
	if s := state.Fold(l[:1]); len(s.Stories) != 0 || len(s.Templates) != 0 {
		t.Error(s)
	}
	x := theOnly(t, state.Fold(l))
	if x.ID != 2 || x.Published != 2 || len(x.Editions) != 1 || x.Editions[0].Rev != 1 || x.Editions[0].Lang != "en" || x.Editions[0].Changed != 3 || len(x.Corrections) != 1 {
		t.Error(x)
	}
	if s := state.Fold(append(l, takeDown(2))); !sameState(s, api.State{Stories: []api.Story{{ID: 2, Published: 2, Taken: true}}}) {
		t.Error(s)
	}
	if s := state.Fold(nil); len(s.Stories) != 0 || len(s.Templates) != 0 {
		t.Error(s)
	}
}

// P7.1: the fields of a story, whatever the order of the facts.
func TestStories(t *testing.T) {
	other := revise(4, 7, "de", 1, 0)
	other.Author, other.Topics = "bob", []string{"vote", "rain"}
	bare := revise(5, 7, "en", 2, 1)
	bare.Author, bare.Topics = "", nil
	for i, x := range []struct {
		l    []api.Fact
		want api.Story
	}{
		{[]api.Fact{publish(9, 7)}, api.Story{ID: 7, Published: 9}},
		{[]api.Fact{publish(9, 7), publish(10, 7)}, api.Story{ID: 7, Published: 9}},
		{[]api.Fact{publish(0, 7), publish(10, 7)}, api.Story{ID: 7}},
		{[]api.Fact{publish(-3, 0), publish(10, 0)}, api.Story{Published: -3}},
		{[]api.Fact{publish(1, -7), retract(-7), retract(7)}, api.Story{ID: -7, Published: 1, Retracted: true}},
		{[]api.Fact{retract(7), publish(1, 7)}, api.Story{ID: 7, Published: 1, Retracted: true}},
		{[]api.Fact{takeDown(7), retract(7), correct(2, 7, "en", 1, 2, "x"), other, publish(6, 7)}, api.Story{ID: 7, Published: 6, Taken: true}},
		{[]api.Fact{correct(2, 7, "en", 1, 2, "x"), publish(3, 7), correct(4, 7, "", -1, -2, "")}, api.Story{ID: 7, Published: 3, Corrections: []api.Correction{{Lang: "en", Block: 1, Sentence: 2, Text: "x", N: 2}, {Block: -1, Sentence: -2, N: 4}}}},
		{[]api.Fact{publish(1, 7), revise(2, 7, "en", 1, 0), other}, api.Story{ID: 7, Published: 1, Author: "bob", Topics: []string{"vote", "rain"}, Editions: []api.Edition{{Lang: "de", Rev: 1, Title: "Rain", Changed: 4}, {Lang: "en", Rev: 1, Title: "Rain", Changed: 2}}}},
		{[]api.Fact{other, bare, publish(6, 7)}, api.Story{ID: 7, Published: 6, Editions: []api.Edition{{Lang: "de", Rev: 1, Title: "Rain", Changed: 4}, {Lang: "en", Rev: 2, Title: "Rain", Changed: 5}}}},
	} {
		if s := state.Fold(x.l); !sameState(s, api.State{Stories: []api.Story{x.want}}) {
			t.Errorf("%d: %+v", i, s)
		}
	}
}

// P7.1: stories, editions and templates are sorted, and templates are the last ones.
func TestSorting(t *testing.T) {
	s := state.Fold([]api.Fact{
		publish(1, 64), publish(2, 7), publish(3, 10), publish(4, -1), publish(5, 7),
		template("story", "1"), template("a", "2"), template("", "3"), template("front", "4"), template("a-", "5"), template("story", "6"), template("Z", "7"), template("a", ""),
		revise(1, 7, "fr", 1, 0), revise(2, 7, "e", 1, 0), revise(3, 7, "", 1, 0), revise(4, 7, "en", 1, 0), revise(5, 7, "Z", 1, 0), revise(6, 7, "fr", 2, 1),
	})
	var ids []int
	for _, x := range s.Stories {
		ids = append(ids, x.ID)
	}
	if !slices.Equal(ids, []int{-1, 7, 10, 64}) {
		t.Error(ids)
	}
	if !slices.Equal(s.Templates, []api.Template{{Text: "3"}, {Name: "Z", Text: "7"}, {Name: "a"}, {Name: "a-", Text: "5"}, {Name: "front", Text: "4"}, {Name: "story", Text: "6"}}) {
		t.Error(s.Templates)
	}
	var langs []string
	for _, e := range s.Stories[1].Editions {
		langs = append(langs, e.Lang)
	}
	if !slices.Equal(langs, []string{"", "Z", "e", "en", "fr"}) {
		t.Error(langs)
	}
}

// P7.1: the blocks of an edition after its revisions.
func TestRevisions(t *testing.T) {
	one, two, three, uno, due := paragraph(1, "one"), paragraph(2, "two"), paragraph(3, "three"), paragraph(1, "uno"), paragraph(2, "due")
	var long, longer []api.Block
	for i := range 20 {
		long = append(long, paragraph(100+i, "a"))
		longer = append(longer, paragraph(200+i, "b"))
	}
	for i, x := range []struct {
		l    []api.Fact
		want string
	}{
		{[]api.Fact{revise(1, 1, "en", 1, 0, one, two)}, "1one 2two"},
		{[]api.Fact{revise(1, 1, "en", 1, 9, one, one)}, "1one 1one"},
		{[]api.Fact{revise(1, 1, "en", 1, 1, one)}, "1one"},
		{[]api.Fact{revise(1, 1, "en", 1, 0, one, two), revise(2, 1, "en", 2, 1, two)}, "2two"},
		{[]api.Fact{revise(1, 1, "en", 1, 0, one, two), revise(2, 1, "en", 2, 1)}, ""},
		// The revision directly before counts, even if its own base was another one, or another one has the same Rev.
		{[]api.Fact{revise(1, 1, "en", 1, 0, one), revise(2, 1, "en", 2, 0, two), revise(3, 1, "en", 3, 2, three)}, "3three"},
		{[]api.Fact{revise(1, 1, "en", 1, 0, one), revise(2, 1, "en", 1, 0, two), revise(3, 1, "en", 1, 1, three)}, "3three"},
		{[]api.Fact{revise(1, 1, "en", 0, 0, one), revise(2, 1, "en", 0, 0, two)}, "2two"},
		{[]api.Fact{revise(1, 1, "en", 1, 0, one), revise(2, 1, "de", 2, 1, three), revise(3, 2, "en", 2, 1, three), revise(4, 1, "en", 2, 1, two)}, "2two"},
		// Concurrent revisions are merged.
		{[]api.Fact{revise(1, 1, "en", 1, 0, one, two), revise(2, 1, "en", 2, 1, uno, two), revise(3, 1, "en", 3, 1, one, due)}, "1uno 2due"},
		{[]api.Fact{revise(1, 1, "en", 1, 0, one), revise(2, 1, "en", 2, 0, two), revise(3, 1, "en", 3, 0, three)}, "3three 2two 1one"},
		{[]api.Fact{revise(1, 1, "en", 1, 0, one), revise(2, 1, "en", 2, 7, two)}, "2two 1one"},
		{[]api.Fact{revise(1, 1, "en", 1, 0, one), revise(2, 1, "en", 2, -1, uno)}, "1uno"},
		{[]api.Fact{revise(1, 1, "en", 0, 5, one, two), revise(2, 1, "en", 1, 0, one, two), revise(3, 1, "en", 2, 0, two)}, "2two"},
		// The last revision with the Rev is the base, not the next one with it, and not the merged blocks.
		{[]api.Fact{revise(1, 1, "en", 1, 0, one), revise(2, 1, "en", 1, 5, two), revise(3, 1, "en", 2, 1, one, two), revise(4, 1, "en", 3, 1, three)}, "3three 1one"},
		{[]api.Fact{revise(1, 1, "en", 1, 0, one), revise(2, 1, "en", 2, 0, two), revise(3, 1, "en", 3, 2, one, two), revise(4, 1, "en", 4, 2)}, "1one"},
		{[]api.Fact{revise(1, 1, "en", 2, 0, one), revise(2, 1, "en", 3, 4, two), revise(3, 1, "en", 4, 3, one), revise(4, 1, "en", 5, 3, three)}, "3three 1one"},
		// What cannot be merged is replaced.
		{[]api.Fact{revise(1, 1, "en", 1, 0, one, one), revise(2, 1, "en", 2, 7, two)}, "2two"},
		{[]api.Fact{revise(1, 1, "en", 1, 0, one), revise(2, 1, "en", 2, 7, two, two)}, "2two 2two"},
		{[]api.Fact{revise(1, 1, "en", 1, 0, one, one), revise(2, 1, "en", 2, 1, one), revise(3, 1, "en", 3, 1, two)}, "2two"},
		{[]api.Fact{revise(1, 1, "en", 1, 0, long...), revise(2, 1, "en", 2, 0, longer...)}, written(longer)},
	} {
		s := state.Fold(append(x.l, publish(9, 1)))
		if e, ok := editionIn(s, 1, "en"); !ok || written(e.Blocks) != x.want {
			t.Error(i, written(e.Blocks))
		}
	}
}

// P7.1: the title, the Rev and the Changed of an edition.
func TestEditionFields(t *testing.T) {
	second := revise(5, 1, "en", -3, 0)
	second.Title = "Snow"
	third := revise(9, 1, "en", -9, 0)
	third.Title = ""
	for i, x := range []struct {
		l    []api.Fact
		want api.Edition
	}{
		{[]api.Fact{revise(4, 1, "en", 1, 0)}, api.Edition{Lang: "en", Rev: 1, Title: "Rain", Changed: 4}},
		{[]api.Fact{revise(4, 1, "en", 1, 0), second}, api.Edition{Lang: "en", Rev: 1, Title: "Snow", Changed: 5}},
		{[]api.Fact{second, revise(4, 1, "en", 1, 0)}, api.Edition{Lang: "en", Rev: 1, Title: "Rain", Changed: 4}},
		{[]api.Fact{second, third}, api.Edition{Lang: "en", Rev: -3, Changed: 9}},
		{[]api.Fact{third, second}, api.Edition{Lang: "en", Rev: -3, Title: "Snow", Changed: 5}},
		{[]api.Fact{second, correct(7, 1, "en", 9, 9, "x")}, api.Edition{Lang: "en", Rev: -3, Title: "Snow", Changed: 7}},
		{[]api.Fact{second, correct(3, 1, "en", 9, 9, "x")}, api.Edition{Lang: "en", Rev: -3, Title: "Snow", Changed: 3}},
		{[]api.Fact{correct(7, 1, "en", 9, 9, "x"), second}, api.Edition{Lang: "en", Rev: -3, Title: "Snow", Changed: 5}},
		{[]api.Fact{second, correct(7, 1, "de", 9, 9, "x"), correct(8, 2, "en", 9, 9, "x")}, api.Edition{Lang: "en", Rev: -3, Title: "Snow", Changed: 5}},
	} {
		x.l = append(x.l, publish(20, 1), retract(1), api.Fact{N: 30, Kind: api.FApprove, Story: 1, Lang: "en"})
		story := theOnly(t, state.Fold(x.l))
		story.Corrections, story.Topics = nil, nil
		if !sameState(api.State{Stories: []api.Story{{Editions: []api.Edition{x.want}}}}, api.State{Stories: []api.Story{{Editions: story.Editions}}}) {
			t.Errorf("%d: %+v", i, story.Editions)
		}
	}
}

// P7.1, P7.4: a correction replaces a sentence, wherever it stands among the facts.
func TestCorrections(t *testing.T) {
	blocks := []api.Block{
		{ID: 1, Kind: api.BHeading, Text: "A. B.  Go"},
		{ID: 2, Kind: api.BFigure, Text: " one.  two. three "},
		{ID: 3, Kind: api.BCount, Text: "rain"},
		quote(4, 1, 1),
		paragraph(5, "J. Smith. x"), paragraph(5, "second."),
		{ID: 6, Kind: api.BCount, Text: "vote"}, paragraph(6, "vote"),
		paragraph(7, "   "),
		{ID: 8, Kind: 9, Text: "odd."}, {ID: 9, Text: "odd."},
	}
	for i, x := range []struct {
		f    api.Fact
		at   int
		want string
	}{
		{correct(9, 1, "en", 1, 0, "x"), 0, "x"},
		{correct(9, 1, "en", 2, 0, "x"), 1, "x two. three"},
		{correct(9, 1, "en", 2, 1, ""), 1, "one.  three"},
		{correct(9, 1, "en", 2, 2, " 3. 4. "), 1, "one. two.  3. 4. "},
		{correct(9, 1, "en", 2, 3, "x"), 1, " one.  two. three "},
		{correct(9, 1, "en", 2, -1, "x"), 1, " one.  two. three "},
		{correct(9, 1, "en", 3, 0, "x"), 2, "rain"},
		{correct(9, 1, "en", 4, 0, "x"), 3, "own"},
		{correct(9, 1, "en", 5, 1, "y"), 4, "J. Smith. y"},
		{correct(9, 1, "en", 5, 1, "y"), 5, "second."},
		{correct(9, 1, "en", 6, 0, "x"), 7, "vote"},
		{correct(9, 1, "en", 7, 0, "x"), 8, "   "},
		{correct(9, 1, "en", 8, 0, "x"), 9, "odd."},
		{correct(9, 1, "en", 9, 0, "x"), 10, "odd."},
		{correct(9, 1, "en", 0, 0, "x"), 0, "A. B.  Go"},
		{correct(9, 1, "de", 2, 0, "x"), 1, " one.  two. three "},
		{correct(9, 2, "en", 2, 0, "x"), 1, " one.  two. three "},
	} {
		for at := range 3 {
			l := slices.Insert([]api.Fact{publish(1, 1), revise(2, 1, "en", 1, 0, blocks...)}, at, x.f)
			e, _ := editionIn(state.Fold(l), 1, "en")
			if len(e.Blocks) != len(blocks) || e.Blocks[x.at].Text != x.want {
				t.Error(i, at, written(e.Blocks))
			}
			for k, b := range e.Blocks {
				if k != x.at && x.f.Block != b.ID && b.Text != blocks[k].Text {
					t.Error(i, at, "another block has changed:", written(e.Blocks))
				}
			}
		}
	}
}

// P7.1: corrections are applied in their order, each to the text that the one before it has left, after all revisions and mergers.
func TestSeveralCorrections(t *testing.T) {
	l := []api.Fact{
		publish(1, 1),
		revise(2, 1, "en", 1, 0, paragraph(1, "a. b. c."), paragraph(2, "z.")),
		correct(3, 1, "en", 1, 0, "x. y."),
		correct(4, 1, "en", 1, 1, "z."),
		revise(5, 1, "en", 2, 1, paragraph(1, "d. e."), paragraph(2, "z.")),
		revise(6, 1, "en", 3, 1, paragraph(1, "a. b. c."), paragraph(2, "q.")),
		correct(7, 1, "en", 2, 0, "w."),
	}
	for i, want := range []string{"", "", "1a. b. c. 2z.", "1x. y. b. c. 2z.", "1x. z. b. c. 2z.", "1x. z. e. 2z.", "1x. z. e. 2q.", "1x. z. e. 2w."} {
		e, _ := editionIn(state.Fold(l[:i]), 1, "en")
		if written(e.Blocks) != want {
			t.Error(i, written(e.Blocks))
		}
	}
}

// P7.1: Fold returns what the chapter says, for facts that need not be valid.
func TestFold(t *testing.T) {
	m := newMaker(1)
	for range 20000 {
		l := m.facts(24)
		if got, want := state.Fold(l), foldOf(l); !sameState(got, want) {
			t.Fatalf("%+v\ngives %+v\nnot %+v", l, got, want)
		}
	}
}
