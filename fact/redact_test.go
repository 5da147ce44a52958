package fact_test

import (
	"math/rand"
	"testing"

	"copydesk/api"
	"copydesk/fact"
)

// isRedacted reports whether Redact changes the facts of a kind.
func isRedacted(kind int) bool {
	return kind == 1 || kind == 4 || kind == 5
}

// left returns what Redact must return.
func left(f api.Fact) api.Fact {
	if isRedacted(f.Kind) {
		return api.Fact{N: f.N, Time: f.Time, Kind: 10, Story: f.Story}
	}
	return f
}

// P5.4: the example of the chapter.
func TestRedactOfTheExample(t *testing.T) {
	f := api.Fact{N: 9, Time: 5, Kind: api.FCorrect, Story: 2, Lang: "en", Block: 1, Text: "No."}
	if g := fact.Redact(f); !fact.Same(g, api.Fact{N: 9, Time: 5, Kind: api.FGone, Story: 2}) {
		t.Errorf("Redact(%v) = %v", f, g)
	}
}

// P5.4: each kind, with each of its fields changed, valid or not; redacting again changes nothing.
func TestRedact(t *testing.T) {
	var l []api.Fact
	for _, f := range manyFacts() {
		for _, kind := range append(outside(), 0, 1, 2, 3, 4, 5, 6, 7, 8, 9, 10, 11, f.Kind) {
			g := roomy(f)
			g.Kind = kind
			l = append(l, g)
			for _, change := range changes() {
				g = roomy(f)
				g.Kind = kind
				change(&g)
				l = append(l, g)
			}
		}
	}
	for _, f := range l {
		g := fact.Redact(f)
		if !fact.Same(g, left(f)) {
			t.Fatalf("Redact(%v) = %v", f, g)
		}
		if !fact.Same(fact.Redact(g), g) {
			t.Fatalf("Redact(%v) = %v", g, fact.Redact(g))
		}
	}
}

// P5.4: what is left of a valid fact is valid.
func TestRedactReturnsValidFacts(t *testing.T) {
	r := rand.New(rand.NewSource(6))
	l := append(examples(), longest())
	for range 5000 {
		l = append(l, someFact(r))
	}
	for _, f := range l {
		if g := fact.Redact(f); !fact.Valid(g) || !fact.Same(g, left(f)) {
			t.Fatalf("Redact(%v) = %v", f, g)
		}
	}
}

// P5.4: what is left of a fact that is redacted depends on nothing but N, Time and Story.
func TestRedactHidesEverythingElse(t *testing.T) {
	for _, f := range examples() {
		if !isRedacted(f.Kind) {
			continue
		}
		for _, g := range manyFacts() {
			for _, kind := range []int{1, 4, 5} {
				g.N, g.Time, g.Kind, g.Story = f.N, f.Time, kind, f.Story
				if !fact.Same(fact.Redact(f), fact.Redact(g)) {
					t.Errorf("Redact(%v) = %v, but Redact(%v) = %v", f, fact.Redact(f), g, fact.Redact(g))
				}
			}
		}
	}
}

// P5.4: what Redact returns is new memory, and no two lists in it share any, also if it returns all of the fact.
func TestRedactReturnsNewMemory(t *testing.T) {
	for _, f := range manyFacts() {
		if isRedacted(f.Kind) {
			f.Kind = 11
		}
		// In the argument, all blocks share the memory of one After.
		shared := roomy(f)
		for i := range shared.Blocks {
			shared.Blocks[i].Label.After = shared.Label.After
		}
		want := roomy(shared)
		one, two := fact.Redact(shared), fact.Redact(shared)
		checkApart(t, fact.Redact(shared))
		scribble(one)
		if !fact.Same(shared, want) || !fact.Same(two, want) {
			t.Fatalf("results share memory with each other or with the argument: %v and %v, want %v", shared, two, want)
		}
	}
}
