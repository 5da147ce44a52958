package state_test

import (
	"testing"

	"copydesk/api"
	"copydesk/state"
)

// P7.1: the examples of Resolve and Text.
func TestTextExamples(t *testing.T) {
	s := state.Fold(example())
	if text, found := state.Text(s, 2, "en"); !found || text != "Rain\nIt rained. It stopped.\nrain: 1\nCorrection: It stopped.\n" {
		t.Errorf("%q", text)
	}
	if text, found := state.Text(s, 2, "fr"); found || text != "" {
		t.Errorf("%q", text)
	}
	if text, found := state.Text(s, 3, "en"); found || text != "" {
		t.Errorf("%q", text)
	}
	if got := state.Resolve(s, "fr", quote(1, 2, 1)); got != "It rained. It stopped." {
		t.Errorf("%q", got)
	}
	if got := state.Resolve(s, "en", quote(1, 2, 3)); got != "[removed]" {
		t.Errorf("%q", got)
	}
}

// P7.1, P7.5: a count is the number of listed stories with the topic.
func TestCount(t *testing.T) {
	edition := []api.Edition{{Lang: "en"}}
	s := api.State{Stories: []api.Story{
		{ID: 1, Topics: []string{"vote", "rain"}, Editions: edition},
		{ID: 2, Topics: []string{"rain", "rain"}, Editions: edition},
		{ID: 2, Topics: []string{"rain"}, Editions: edition},
		{ID: 3, Topics: []string{"rain", "a"}},
		{ID: 4, Topics: []string{"rain", "b"}, Editions: edition, Retracted: true},
		{ID: 5, Topics: []string{"rain", "c"}, Editions: edition, Taken: true},
		{ID: 6, Editions: edition},
		{ID: 7, Topics: []string{""}, Editions: edition},
	}}
	for topic, want := range map[string]string{"rain": "3", "vote": "1", "a": "0", "b": "0", "c": "0", "": "1", "rai": "0", "rainy": "0"} {
		for _, lang := range []string{"en", "fr", ""} {
			if got := state.Resolve(s, lang, count(9, topic)); got != want {
				t.Error(topic, lang, got)
			}
		}
	}
	var many api.State
	for i := range 123 {
		many.Stories = append(many.Stories, api.Story{ID: i, Topics: []string{"rain"}, Editions: edition})
	}
	if got := state.Resolve(many, "en", count(9, "rain")); got != "123" {
		t.Error(got)
	}
}

// P7.1: a quote shows the quoted block in the first story and edition that fit.
func TestQuote(t *testing.T) {
	s := api.State{Stories: []api.Story{
		{ID: 1, Topics: []string{"rain"}, Editions: []api.Edition{
			{Lang: "de", Blocks: []api.Block{paragraph(1, "Ja.  Nein."), {ID: 2, Kind: api.BHeading, Text: "Kopf"}, paragraph(1, "zwei")}},
			{Lang: "en", Blocks: []api.Block{paragraph(1, "Yes."), count(3, "rain"), quote(4, 2, 1), quote(5, 3, 1), quote(6, 1, 2), {ID: 7, Kind: 9, Text: "odd"}, {ID: 8, Kind: api.BFigure, Text: "map"}}},
			{Lang: "en", Blocks: []api.Block{paragraph(2, "second edition")}},
		}},
		{ID: 1, Editions: []api.Edition{{Lang: "fr", Blocks: []api.Block{paragraph(1, "Oui.")}}}},
		{ID: 2, Retracted: true, Editions: []api.Edition{{Lang: "en", Blocks: []api.Block{paragraph(1, "Wrong."), quote(2, 1, 1)}}}},
		{ID: 3, Taken: true},
		{ID: 4, Taken: true, Editions: []api.Edition{{Lang: "", Blocks: []api.Block{paragraph(1, "left")}}}},
		{ID: 5, Retracted: true},
	}}
	for i, x := range []struct {
		b    api.Block
		lang string
		want string
	}{
		{quote(1, 1, 1), "en", "Yes."},
		{quote(1, 1, 1), "de", "Ja.  Nein."},
		{quote(1, 1, 1), "fr", "Ja.  Nein."},
		{quote(1, 1, 1), "", "Ja.  Nein."},
		{quote(1, 1, 2), "de", "Kopf"},
		{quote(1, 1, 2), "en", "[removed]"},
		{quote(1, 1, 3), "en", "1"},
		{quote(1, 1, 3), "de", "[removed]"},
		{quote(1, 1, 4), "en", "[retracted]"},
		{quote(1, 1, 5), "en", "[removed]"},
		{quote(1, 1, 6), "en", "[removed]"},
		{quote(1, 1, 7), "en", "odd"},
		{quote(1, 1, 8), "en", "map"},
		{quote(1, 1, 0), "en", "[removed]"},
		{quote(1, 2, 1), "en", "[retracted]"},
		{quote(1, 2, 1), "de", "[retracted]"},
		{quote(1, 2, 2), "en", "[retracted]"},
		{quote(1, 2, 3), "en", "[removed]"},
		{quote(1, 3, 1), "en", "[removed]"},
		{quote(1, 4, 1), "en", "left"},
		{quote(1, 5, 1), "en", "[removed]"},
		{quote(1, 6, 1), "en", "[removed]"},
		{quote(1, 0, 0), "en", "[removed]"},
	} {
		if got := state.Resolve(s, x.lang, x.b); got != x.want {
			t.Errorf("%d: %q", i, got)
		}
	}
}

// P7.1, P7.5: other blocks show their text, whatever their other fields say.
func TestOthers(t *testing.T) {
	for _, kind := range []int{-1, 0, api.BHeading, api.BParagraph, api.BFigure, 6, 100} {
		for _, s := range []api.State{{}, state.Fold(example())} {
			b := api.Block{ID: 1, Kind: kind, Text: "a.  b. ", Story: 2, Ref: 1}
			if got := state.Resolve(s, "en", b); got != "a.  b. " {
				t.Errorf("%d: %q", kind, got)
			}
		}
	}
}

// P7.1, P7.5: at most eight quotes are followed.
func TestLongQuotes(t *testing.T) {
	for length := range 20 {
		ends := map[string]api.Story{
			"end":         {Editions: []api.Edition{{Blocks: []api.Block{paragraph(1, "end")}}}},
			"[removed]":   {Taken: true},
			"[retracted]": {Retracted: true, Editions: []api.Edition{{Blocks: []api.Block{quote(1, 0, 1)}}}},
			"0":           {Editions: []api.Edition{{Blocks: []api.Block{count(1, "rain")}}}},
		}
		for want, end := range ends {
			var s api.State
			for i := range length {
				s.Stories = append(s.Stories, api.Story{ID: i, Editions: []api.Edition{{Blocks: []api.Block{quote(1, i+1, 1)}}}})
			}
			end.ID = length
			s.Stories = append(s.Stories, end)
			if length+1 > 8 {
				want = "[circular]"
			}
			if got := state.Resolve(s, "en", quote(1, 0, 1)); got != want {
				t.Errorf("%d: %q, not %q", length, got, want)
			}
		}
	}
}

// P7.5: quotes that quote each other are circular.
func TestCircles(t *testing.T) {
	for length := 1; length <= 10; length++ {
		var s api.State
		for i := range length {
			s.Stories = append(s.Stories, api.Story{ID: i, Editions: []api.Edition{{Blocks: []api.Block{quote(1, (i+1)%length, 1)}}}})
		}
		for i := range length {
			if got := state.Resolve(s, "en", quote(1, i, 1)); got != "[circular]" {
				t.Errorf("%d: %q", length, got)
			}
		}
	}
}

// P7.1: the lines of Text.
func TestText(t *testing.T) {
	all := []api.Block{
		{ID: 1, Kind: api.BHeading, Text: "Now.  Then"}, paragraph(2, " It rained.  It stopped. "), quote(3, 2, 1), {ID: 4, Kind: api.BFigure, Text: "map"},
		count(5, "rain"), count(6, "a. b?  c"), {ID: 7, Kind: 8, Text: "odd"}, quote(8, 9, 9),
	}
	corrections := []api.Correction{{Lang: "en", Text: "One."}, {Lang: "fr", Text: "Un."}, {Lang: "en"}, {Lang: "", Text: "none"}}
	s := api.State{Stories: []api.Story{
		{ID: 1, Topics: []string{"rain"}, Editions: []api.Edition{{Lang: "en", Title: "Rain", Blocks: all}, {Lang: "fr", Title: "", Blocks: []api.Block{quote(1, 2, 1)}}, {Lang: "en", Title: "second"}, {Lang: "de", Title: "leer"}}, Corrections: corrections},
		{ID: 2, Topics: []string{"rain"}, Editions: []api.Edition{{Lang: "en", Title: "Two", Blocks: []api.Block{paragraph(1, "Yes.  No.")}}, {Lang: "fr", Title: "Deux", Blocks: []api.Block{paragraph(1, "Oui.")}}}},
		{ID: 3, Topics: []string{"rain"}, Retracted: true, Editions: []api.Edition{{Lang: "en", Title: "Old", Blocks: all}}, Corrections: corrections},
		{ID: 4, Taken: true},
		{ID: 1, Editions: []api.Edition{{Lang: "xx", Title: "other"}}},
	}}
	for i, x := range []struct {
		id    int
		lang  string
		want  string
		found bool
	}{
		{1, "en", "Rain\nNow.  Then\nIt rained. It stopped.\n\"Yes.  No.\"\n[map]\nrain: 2\na. b? c: 0\n\"[removed]\"\nCorrection: One.\nCorrection: \n", true},
		{1, "fr", "\n\"Oui.\"\nCorrection: Un.\n", true},
		{1, "de", "leer\n", true},
		{2, "en", "Two\nYes. No.\n", true},
		{3, "en", "Old\nThis story was retracted.\n", true},
		{3, "fr", "", false},
		{4, "en", "", false},
		{1, "xx", "", false},
		{1, "", "", false},
		{5, "en", "", false},
		{0, "", "", false},
	} {
		if got, found := state.Text(s, x.id, x.lang); got != x.want || found != x.found {
			t.Errorf("%d: %q, %t", i, got, found)
		}
	}
}

// P7.1, P7.5: Resolve and Text return what the chapter says, for states and blocks that need not be valid.
func TestAnyState(t *testing.T) {
	m := newMaker(4)
	for i := range 20000 {
		s := m.state()
		if i%2 == 0 {
			s = state.Fold(m.facts(24))
		}
		for range 5 {
			lang, b := oneOf(m, langPool), m.block()
			if m.Intn(2) == 0 {
				b = quote(1, oneOf(m, storyPool), m.Intn(6))
			}
			if got, want := state.Resolve(s, lang, b), resolved(s, lang, b, 8); got != want {
				t.Fatalf("%+v in %q of %+v: %q, not %q", b, lang, s, got, want)
			}
		}
		for _, id := range storyPool {
			lang := oneOf(m, langPool)
			got, found := state.Text(s, id, lang)
			want, exists := textOf(s, id, lang)
			if got != want || found != exists {
				t.Fatalf("story %d in %q of %+v: %q, not %q", id, lang, s, got, want)
			}
		}
	}
}
