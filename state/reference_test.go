package state_test

import (
	"math/rand"
	"reflect"
	"slices"
	"sort"
	"strconv"
	"strings"

	"copydesk/api"
	"copydesk/block"
	"copydesk/merge"
)

// The functions of this file are a transcription of the chapter, with which the tests compare. Each of them looks at the whole list again.

// those returns the facts of l for which is holds.
func those(l []api.Fact, is func(f api.Fact) bool) []api.Fact {
	var list []api.Fact
	for _, f := range l {
		if is(f) {
			list = append(list, f)
		}
	}
	return list
}

// ofKind returns the facts of l of a kind.
func ofKind(l []api.Fact, kind int) []api.Fact {
	return those(l, func(f api.Fact) bool { return f.Kind == kind })
}

// ofStory returns the facts of l with the Story.
func ofStory(l []api.Fact, story int) []api.Fact {
	return those(l, func(f api.Fact) bool { return f.Story == story })
}

// inLang returns the facts of l with the Lang.
func inLang(l []api.Fact, lang string) []api.Fact {
	return those(l, func(f api.Fact) bool { return f.Lang == lang })
}

// foldOf is Fold.
func foldOf(l []api.Fact) api.State {
	var s api.State
	for _, f := range ofKind(l, api.FPublish) {
		if !slices.ContainsFunc(s.Stories, func(x api.Story) bool { return x.ID == f.Story }) {
			s.Stories = append(s.Stories, storyOf(f.Story, ofStory(l, f.Story)))
		}
	}
	for i, f := range l {
		if f.Kind == api.FTemplate && len(those(ofKind(l[i+1:], api.FTemplate), func(x api.Fact) bool { return x.Name == f.Name })) == 0 {
			s.Templates = append(s.Templates, api.Template{Name: f.Name, Text: f.Text})
		}
	}
	sort.Slice(s.Stories, func(i, k int) bool { return s.Stories[i].ID < s.Stories[k].ID })
	sort.Slice(s.Templates, func(i, k int) bool { return s.Templates[i].Name < s.Templates[k].Name })
	return s
}

// storyOf returns the story that the facts with its ID make.
func storyOf(id int, l []api.Fact) api.Story {
	x := api.Story{ID: id, Published: ofKind(l, api.FPublish)[0].N}
	if len(ofKind(l, api.FTakedown)) > 0 {
		x.Taken = true
		return x
	}
	x.Retracted = len(ofKind(l, api.FRetract)) > 0
	revisions := ofKind(l, api.FRevise)
	langs := map[string]bool{}
	for _, f := range revisions {
		x.Author, x.Topics = f.Author, f.Topics
		langs[f.Lang] = true
	}
	for lang := range langs {
		x.Editions = append(x.Editions, editionOf(lang, inLang(l, lang)))
	}
	sort.Slice(x.Editions, func(i, k int) bool { return x.Editions[i].Lang < x.Editions[k].Lang })
	for _, f := range ofKind(l, api.FCorrect) {
		x.Corrections = append(x.Corrections, api.Correction{Lang: f.Lang, Block: f.Block, Sentence: f.Sentence, Text: f.Text, N: f.N})
	}
	return x
}

// editionOf returns the edition that the facts of a story in its language make.
func editionOf(lang string, l []api.Fact) api.Edition {
	revisions := ofKind(l, api.FRevise)
	e := api.Edition{Lang: lang, Rev: revisions[0].Rev, Title: revisions[len(revisions)-1].Title}
	for i, f := range revisions {
		e.Rev = max(e.Rev, f.Rev)
		e.Blocks = blocksAfter(e.Blocks, revisions[:i], f)
	}
	e.Blocks = slices.Clone(e.Blocks)
	for _, f := range l {
		if f.Kind == api.FRevise || f.Kind == api.FCorrect {
			e.Changed = f.N
		}
		if f.Kind == api.FCorrect {
			correctIn(e.Blocks, f)
		}
	}
	return e
}

// blocksAfter returns the blocks after the revision f, which follows the earlier ones.
func blocksAfter(soFar []api.Block, earlier []api.Fact, f api.Fact) []api.Block {
	if len(earlier) == 0 || earlier[len(earlier)-1].Rev == f.Base {
		return f.Blocks
	}
	var base []api.Block
	for _, x := range earlier {
		if x.Rev == f.Base {
			base = x.Blocks
		}
	}
	merged, _, err := merge.Merge(base, soFar, f.Blocks)
	if err != 0 {
		return f.Blocks
	}
	return merged
}

// correctIn applies the correction f to l.
func correctIn(l []api.Block, f api.Fact) {
	for i, b := range l {
		if b.ID != f.Block {
			continue
		}
		if b.Kind == api.BHeading || b.Kind == api.BParagraph || b.Kind == api.BFigure {
			var sentences []string
			changed := false
			for k, sentence := range block.Sentences(b.Text) {
				if k == f.Sentence {
					sentence, changed = f.Text, true
				}
				sentences = append(sentences, sentence)
			}
			if changed {
				l[i].Text = strings.Join(sentences, " ")
			}
		}
		return
	}
}

// sameState is Same.
func sameState(a, b api.State) bool {
	return reflect.DeepEqual(withoutEmpty(reflect.ValueOf(a)), withoutEmpty(reflect.ValueOf(b)))
}

// withoutEmpty returns the fields and elements of v, in which all empty lists are the same.
func withoutEmpty(v reflect.Value) any {
	var l []any
	switch v.Kind() {
	case reflect.Struct:
		for i := range v.NumField() {
			l = append(l, withoutEmpty(v.Field(i)))
		}
	case reflect.Slice:
		for i := range v.Len() {
			l = append(l, withoutEmpty(v.Index(i)))
		}
	default:
		return v.Interface()
	}
	return l
}

// findIn is Find.
func findIn(s api.State, id int) (api.Story, bool) {
	for _, x := range s.Stories {
		if x.ID == id {
			return x, true
		}
	}
	return api.Story{}, false
}

// editionIn is Edition.
func editionIn(s api.State, id int, lang string) (api.Edition, bool) {
	x, _ := findIn(s, id)
	for _, e := range x.Editions {
		if e.Lang == lang {
			return e, true
		}
	}
	return api.Edition{}, false
}

// resolved is Resolve, where b is the first of the quotes that may still be followed.
func resolved(s api.State, lang string, b api.Block, left int) string {
	switch b.Kind {
	case api.BCount:
		n := 0
		for _, x := range s.Stories {
			if !x.Retracted && !x.Taken && len(x.Editions) > 0 && slices.Contains(x.Topics, b.Text) {
				n++
			}
		}
		return strconv.Itoa(n)
	case api.BQuote:
		if left == 0 {
			return "[circular]"
		}
		x, ok := findIn(s, b.Story)
		if !ok || len(x.Editions) == 0 {
			return "[removed]"
		}
		e, ok := editionIn(s, b.Story, lang)
		if !ok {
			e = x.Editions[0]
		}
		for _, quoted := range e.Blocks {
			if quoted.ID == b.Ref && x.Retracted {
				return "[retracted]"
			}
			if quoted.ID == b.Ref {
				return resolved(s, lang, quoted, left-1)
			}
		}
		return "[removed]"
	}
	return b.Text
}

// textOf is Text.
func textOf(s api.State, id int, lang string) (string, bool) {
	e, ok := editionIn(s, id, lang)
	if !ok {
		return "", false
	}
	x, _ := findIn(s, id)
	if x.Retracted {
		return e.Title + "\nThis story was retracted.\n", true
	}
	text := e.Title + "\n"
	for _, b := range e.Blocks {
		shown := resolved(s, lang, b, 8)
		switch b.Kind {
		case api.BQuote:
			text += "\"" + shown + "\"\n"
		case api.BCount:
			text += strings.Join(block.Sentences(b.Text+": "+shown), " ") + "\n"
		default:
			text += block.Plain([]api.Block{b})
		}
	}
	for _, c := range x.Corrections {
		if c.Lang == lang {
			text += "Correction: " + c.Text + "\n"
		}
	}
	return text, true
}

// Pools of values for the tests: few, so that facts often concern the same things.
var (
	storyPool  = []int{1, 2, 3, 64, 0, -5, 65}
	langPool   = []string{"en", "de", "fr", "", "Z", "e"}
	topicPool  = []string{"rain", "vote", "", "a. b."}
	namePool   = []string{"front", "story", "", "a", "Z"}
	textPool   = []string{"One.", "One. Two.  Three", "", "  Go!  No? ", "rain", "J. Smith. x", "\n", "vote"}
	kindPool   = []int{api.FRevise, api.FRevise, api.FRevise, api.FRevise, api.FRevise, api.FCorrect, api.FCorrect, api.FCorrect, api.FPublish, api.FPublish, api.FTemplate, api.FApprove, api.FPartner, api.FLease, api.FGone, 0, -1, 11}
	blockKinds = []int{api.BHeading, api.BParagraph, api.BQuote, api.BFigure, api.BCount}
)

// maker makes random lists of facts.
type maker struct{ *rand.Rand }

// newMaker returns a maker that always makes the same lists.
func newMaker(seed int64) maker { return maker{rand.New(rand.NewSource(seed))} }

// oneOf returns one of the values, most often one of the first.
func oneOf[T any](m maker, values []T) T {
	return values[m.Intn(1+m.Intn(len(values)))]
}

// label returns a label, which is rarely valid.
func (m maker) label() api.Label {
	l := api.Label{Until: m.Intn(3), Denied: m.Intn(20)}
	for range m.Intn(3) {
		l.After = append(l.After, m.Intn(66))
	}
	return l
}

// validBlock returns a valid block.
func (m maker) validBlock(id int) api.Block {
	b := api.Block{ID: id, Kind: blockKinds[m.Intn(5)], Text: textPool[m.Intn(2)], Label: api.Label{Until: m.Intn(2)}}
	switch b.Kind {
	case api.BQuote:
		b.Story, b.Ref = 1+m.Intn(3), 1+m.Intn(4)
	case api.BCount:
		b.Text = "rain"
	}
	return b
}

// block returns a block that need not be valid.
func (m maker) block() api.Block {
	return api.Block{ID: m.Intn(5) - 1, Kind: m.Intn(7), Text: textPool[m.Intn(len(textPool))], Story: oneOf(m, storyPool), Ref: m.Intn(5), Label: m.label()}
}

// blocks returns a list of blocks, which is mostly valid.
func (m maker) blocks() []api.Block {
	var l []api.Block
	if m.Intn(5) == 0 {
		for range m.Intn(4) {
			l = append(l, m.block())
		}
		return l
	}
	for _, i := range m.Perm(5)[:m.Intn(6)] {
		l = append(l, m.validBlock(1+i))
	}
	return l
}

// fact returns a fact that need not be valid.
func (m maker) fact(n int) api.Fact {
	f := api.Fact{N: n, Time: m.Intn(5), Kind: kindPool[m.Intn(len(kindPool))], Story: oneOf(m, storyPool), Lang: oneOf(m, langPool), Rev: m.Intn(6) - 1, Base: m.Intn(6) - 1, Title: oneOf(m, textPool), Author: oneOf(m, namePool), Blocks: m.blocks(), Label: m.label(), Editor: m.Intn(6), Block: m.Intn(6), Sentence: m.Intn(5) - 1, Text: textPool[m.Intn(len(textPool))], Name: oneOf(m, namePool)}
	for range m.Intn(3) {
		f.Topics = append(f.Topics, oneOf(m, topicPool))
	}
	switch m.Intn(40) {
	case 0:
		f.Kind = api.FRetract
	case 1:
		f.Kind = api.FTakedown
	case 2:
		f.N = m.Intn(5) - 2
	}
	return f
}

// facts returns a list of up to n facts that need not be valid.
func (m maker) facts(n int) []api.Fact {
	var l []api.Fact
	for i := range m.Intn(n + 1) {
		l = append(l, m.fact(i+1))
	}
	return l
}

// state returns a state that no list of facts need result in: IDs and languages can occur twice and in any order, and stories that were retracted or taken down can have editions.
func (m maker) state() api.State {
	var s api.State
	for range m.Intn(6) {
		x := api.Story{ID: oneOf(m, storyPool), Author: oneOf(m, namePool), Published: m.Intn(3), Retracted: m.Intn(5) == 0, Taken: m.Intn(5) == 0}
		for range m.Intn(3) {
			x.Topics = append(x.Topics, oneOf(m, topicPool))
			x.Editions = append(x.Editions, api.Edition{Lang: oneOf(m, langPool), Rev: m.Intn(3), Title: oneOf(m, textPool), Blocks: append(m.blocks(), m.blocks()...), Changed: m.Intn(3)})
			x.Corrections = append(x.Corrections, api.Correction{Lang: oneOf(m, langPool), Block: m.Intn(3), Sentence: m.Intn(3), Text: oneOf(m, textPool), N: m.Intn(3)})
		}
		s.Stories = append(s.Stories, x)
	}
	for range m.Intn(3) {
		s.Templates = append(s.Templates, api.Template{Name: oneOf(m, namePool), Text: oneOf(m, textPool)})
	}
	return s
}
