package state

import (
	"cmp"
	"maps"
	"slices"
	"strings"

	"copydesk/api"
	"copydesk/block"
	"copydesk/merge"
)

// draft is a state that is being folded.
type draft struct {
	stories   map[int]*story
	templates map[string]api.Template
}

// story is a story that is being folded. Its Topics are still those of a fact, and its Editions are added at the end.
type story struct {
	api.Story
	published bool
	editions  map[string]*edition
}

// edition is an edition that is being folded. Its Blocks may still be those of a fact.
type edition struct {
	api.Edition
	latest    int
	revisions map[int][]api.Block
}

// Fold returns the state that results from the facts in l.
func Fold(l []api.Fact) api.State {
	d := &draft{stories: map[int]*story{}, templates: map[string]api.Template{}}
	known := effects()
	for _, f := range l {
		if effect, ok := known[f.Kind]; ok {
			effect(d, f)
		}
	}
	return d.state()
}

// effects returns the effects of the kinds of facts that change a state.
func effects() map[int]func(d *draft, f api.Fact) {
	return map[int]func(d *draft, f api.Fact){
		api.FRevise:   (*draft).revise,
		api.FPublish:  (*draft).publish,
		api.FCorrect:  (*draft).correct,
		api.FRetract:  (*draft).retract,
		api.FTakedown: (*draft).takeDown,
		api.FTemplate: (*draft).setTemplate,
	}
}

// story returns the story that f is about.
func (d *draft) story(f api.Fact) *story {
	s, exists := d.stories[f.Story]
	if !exists {
		s = &story{Story: api.Story{ID: f.Story}, editions: map[string]*edition{}}
		d.stories[f.Story] = s
	}
	return s
}

// publish is the effect of FPublish.
func (d *draft) publish(f api.Fact) {
	s := d.story(f)
	if !s.published {
		s.published = true
		s.Published = f.N
	}
}

// revise is the effect of FRevise.
func (d *draft) revise(f api.Fact) {
	s := d.story(f)
	s.Author = f.Author
	s.Topics = f.Topics
	if e, exists := s.editions[f.Lang]; exists {
		e.revise(f)
	} else {
		s.editions[f.Lang] = newEdition(f)
	}
}

// correct is the effect of FCorrect. The correction is applied to the blocks at the end, since it also concerns later revisions.
func (d *draft) correct(f api.Fact) {
	s := d.story(f)
	s.Corrections = append(s.Corrections, api.Correction{Lang: f.Lang, Block: f.Block, Sentence: f.Sentence, Text: f.Text, N: f.N})
	if e, exists := s.editions[f.Lang]; exists {
		e.Changed = f.N
	}
}

// retract is the effect of FRetract.
func (d *draft) retract(f api.Fact) {
	d.story(f).Retracted = true
}

// takeDown is the effect of FTakedown.
func (d *draft) takeDown(f api.Fact) {
	d.story(f).Taken = true
}

// setTemplate is the effect of FTemplate.
func (d *draft) setTemplate(f api.Fact) {
	d.templates[f.Name] = api.Template{Name: f.Name, Text: f.Text}
}

// newEdition returns the edition whose first revision is f.
func newEdition(f api.Fact) *edition {
	return &edition{
		Edition:   api.Edition{Lang: f.Lang, Rev: f.Rev, Title: f.Title, Blocks: f.Blocks, Changed: f.N},
		latest:    f.Rev,
		revisions: map[int][]api.Block{f.Rev: f.Blocks},
	}
}

// revise adds the revision f to those that e already has.
func (e *edition) revise(f api.Fact) {
	if f.Base == e.latest {
		e.Blocks = f.Blocks
	} else {
		e.Blocks = merged(e.revisions[f.Base], e.Blocks, f.Blocks)
	}
	e.Title = f.Title
	e.Rev = max(e.Rev, f.Rev)
	e.Changed = f.N
	e.latest = f.Rev
	e.revisions[f.Rev] = f.Blocks
}

// merged returns the blocks after a revision that was made from base while there were other blocks already, or those of the revision if they cannot be merged.
func merged(base []api.Block, current []api.Block, revised []api.Block) []api.Block {
	blocks, _, err := merge.Merge(base, current, revised)
	if err != api.OK {
		return revised
	}
	return blocks
}

// state returns the folded state, in new memory.
func (d *draft) state() api.State {
	var stories []api.Story
	for _, s := range inOrder(d.stories) {
		if s.published {
			stories = append(stories, s.finished())
		}
	}
	return api.State{Stories: stories, Templates: inOrder(d.templates)}
}

// inOrder returns the values of m in the order of their keys.
func inOrder[K cmp.Ordered, V any](m map[K]V) []V {
	var values []V
	for _, k := range slices.Sorted(maps.Keys(m)) {
		values = append(values, m[k])
	}
	return values
}

// finished returns the story after all facts, in new memory.
func (s *story) finished() api.Story {
	if s.Taken {
		return api.Story{ID: s.ID, Published: s.Published, Taken: true}
	}
	for _, e := range inOrder(s.editions) {
		s.Editions = append(s.Editions, e.corrected(s.Corrections))
	}
	s.Topics = copied(s.Topics, unchanged)
	return s.Story
}

// corrected returns the edition after the corrections of its language, in new memory, since blocks of facts must stay as they are.
func (e *edition) corrected(l []api.Correction) api.Edition {
	result := detachedEdition(e.Edition)
	for _, c := range l {
		if c.Lang == e.Lang {
			apply(c, result.Blocks)
		}
	}
	return result
}

// apply replaces the sentence of l that c corrects, if there is one.
func apply(c api.Correction, l []api.Block) {
	at := slices.IndexFunc(l, func(b api.Block) bool { return b.ID == c.Block })
	if at < 0 || !hasSentences(l[at].Kind) {
		return
	}
	sentences := block.Sentences(l[at].Text)
	if c.Sentence < 0 || c.Sentence >= len(sentences) {
		return
	}
	sentences[c.Sentence] = c.Text
	l[at].Text = strings.Join(sentences, " ")
}

// hasSentences reports whether the Text of blocks of this kind can be corrected.
func hasSentences(kind int) bool {
	return kind == api.BHeading || kind == api.BParagraph || kind == api.BFigure
}
