package fact

import (
	"slices"

	"copydesk/api"
	"copydesk/block"
	"copydesk/label"
)

// field is a field of facts. Its code writes or reads it, whichever the coder does.
type field struct {
	code  func(c coder, f *api.Fact)
	valid func(f *api.Fact) bool
	clear func(f *api.Fact)
}

// fieldAt returns the field that place finds in a fact.
func fieldAt[T any](place func(f *api.Fact) *T, code func(c coder, value *T), valid func(value T) bool) field {
	return field{
		code:  func(c coder, f *api.Fact) { code(c, place(f)) },
		valid: func(f *api.Fact) bool { return valid(*place(f)) },
		clear: func(f *api.Fact) {
			var zero T
			*place(f) = zero
		},
	}
}

// number returns a field that contains a number from low to high.
func number(place func(f *api.Fact) *int, low int, high int) field {
	return fieldAt(place, coder.number, func(n int) bool { return within(n, low, high) })
}

// text returns a field that contains a string.
func text(place func(f *api.Fact) *string, valid func(s string) bool) field {
	return fieldAt(place, coder.text, valid)
}

// head returns the fields that all kinds use, in the order of their encoding.
func head() []field {
	return []field{
		number(func(f *api.Fact) *int { return &f.N }, 0, api.MaxFacts),
		number(func(f *api.Fact) *int { return &f.Time }, 0, api.MaxTime),
		number(func(f *api.Fact) *int { return &f.Kind }, api.FRevise, api.FGone),
	}
}

// fieldsOf returns the other fields that a kind uses, in the order of their encoding, and whether there is such a kind.
func fieldsOf(kind int) ([]field, bool) {
	story := number(func(f *api.Fact) *int { return &f.Story }, 1, api.MaxStories)
	lang := text(func(f *api.Fact) *string { return &f.Lang }, isName)
	embargo := fieldAt(func(f *api.Fact) *api.Label { return &f.Label }, codeLabel, label.Valid)
	words := func(f *api.Fact) *string { return &f.Text }
	name := text(func(f *api.Fact) *string { return &f.Name }, isName)
	partner := number(func(f *api.Fact) *int { return &f.Partner }, 1, api.MaxPartners)
	class := number(func(f *api.Fact) *int { return &f.Class }, 0, api.MaxClasses-1)
	until := number(func(f *api.Fact) *int { return &f.Until }, 0, api.MaxTime)
	switch kind {
	case api.FRevise:
		return slices.Concat([]field{story, lang}, revision(), []field{embargo}), true
	case api.FApprove:
		return []field{story, number(func(f *api.Fact) *int { return &f.Editor }, 1, api.MaxEditors)}, true
	case api.FPublish:
		return []field{story, embargo}, true
	case api.FCorrect:
		inBlock := number(func(f *api.Fact) *int { return &f.Block }, 1, api.MaxBlockID)
		sentence := number(func(f *api.Fact) *int { return &f.Sentence }, 0, api.MaxText-1)
		return []field{story, lang, inBlock, sentence, text(words, isText)}, true
	case api.FRetract:
		return []field{story, text(words, isText)}, true
	case api.FTakedown, api.FGone:
		return []field{story}, true
	case api.FTemplate:
		return []field{name, text(words, isSource)}, true
	case api.FPartner:
		return []field{partner, class, until}, true
	case api.FLease:
		return []field{partner, until}, true
	}
	return nil, false
}

// revision returns the fields that only revisions use, in the order of their encoding.
func revision() []field {
	rev := number(func(f *api.Fact) *int { return &f.Rev }, 1, api.MaxRev)
	base := number(func(f *api.Fact) *int { return &f.Base }, 0, api.MaxRev-1)
	// Unlike all other bounds, this one depends on another field.
	base.valid = func(f *api.Fact) bool { return within(f.Base, 0, f.Rev-1) }
	title := text(func(f *api.Fact) *string { return &f.Title }, isText)
	author := text(func(f *api.Fact) *string { return &f.Author }, isName)
	topics := fieldAt(func(f *api.Fact) *[]string { return &f.Topics }, codeTopics, areTopics)
	blocks := fieldAt(func(f *api.Fact) *[]api.Block { return &f.Blocks }, coder.blocks, block.ValidList)
	return []field{rev, base, title, author, topics, blocks}
}

// areTopics reports whether l can be the topics of a story.
func areTopics(l []string) bool {
	if len(l) > api.MaxTopics {
		return false
	}
	for i, topic := range l {
		if !isName(topic) || i > 0 && l[i-1] >= topic {
			return false
		}
	}
	return true
}

// isName reports whether s is a name.
func isName(s string) bool {
	return within(len(s), 1, api.MaxName) && consistsOf(s, isNameByte)
}

// isText reports whether s is a text.
func isText(s string) bool {
	return within(len(s), 1, api.MaxText) && consistsOf(s, isPrintable)
}

// isSource reports whether s is the source of a template.
func isSource(s string) bool {
	return len(s) <= api.MaxSource && consistsOf(s, isSourceByte)
}

// consistsOf reports whether all bytes of s are allowed.
func consistsOf(s string, allowed func(b byte) bool) bool {
	for i := range len(s) {
		if !allowed(s[i]) {
			return false
		}
	}
	return true
}

// isNameByte reports whether b may be in a name.
func isNameByte(b byte) bool {
	return 'a' <= b && b <= 'z' || '0' <= b && b <= '9' || b == '-'
}

// isPrintable reports whether b may be in a text.
func isPrintable(b byte) bool {
	return ' ' <= b && b <= '~'
}

// isSourceByte reports whether b may be in a source.
func isSourceByte(b byte) bool {
	return b == '\n' || isPrintable(b)
}

// within reports whether n is from low to high.
func within(n int, low int, high int) bool {
	return low <= n && n <= high
}
