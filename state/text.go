package state

import (
	"slices"
	"strconv"
	"strings"

	"copydesk/api"
	"copydesk/block"
)

// maxQuotes is how many quotes are followed to what is quoted.
const maxQuotes = 8

// What a quote shows that leads to no text.
const (
	removed   = "[removed]"
	retracted = "[retracted]"
	circular  = "[circular]"
)

// Resolve returns what b shows on a page in lang.
func Resolve(s api.State, lang string, b api.Block) string {
	for followed := 0; b.Kind == api.BQuote; followed++ {
		if followed == maxQuotes {
			return circular
		}
		story, _ := storyOf(s, b.Story)
		quoted, found := quotedBlock(story, lang, b.Ref)
		if !found {
			return removed
		}
		if story.Retracted {
			return retracted
		}
		b = quoted
	}
	if b.Kind == api.BCount {
		return strconv.Itoa(count(s, b.Text))
	}
	return b.Text
}

// quotedBlock returns the block of story with the ID ref that is quoted on pages in lang, and whether there is one.
func quotedBlock(story api.Story, lang string, ref int) (api.Block, bool) {
	edition, found := editionOf(story, lang)
	if !found && len(story.Editions) > 0 {
		edition = story.Editions[0]
	}
	return first(edition.Blocks, func(b api.Block) bool { return b.ID == ref })
}

// count returns the number of listed stories with the topic.
func count(s api.State, topic string) int {
	n := 0
	for _, story := range s.Stories {
		if isListed(story) && slices.Contains(story.Topics, topic) {
			n++
		}
	}
	return n
}

// isListed reports whether story is listed.
func isListed(story api.Story) bool {
	return !story.Retracted && !story.Taken && len(story.Editions) > 0
}

// Text returns the plain text of the edition that Edition returns, and whether there is one.
func Text(s api.State, id int, lang string) (string, bool) {
	story, _ := storyOf(s, id)
	edition, found := editionOf(story, lang)
	if !found {
		return "", false
	}
	if story.Retracted {
		return edition.Title + "\nThis story was retracted.\n", true
	}
	return edition.Title + "\n" + block.Plain(resolved(s, edition)) + notices(story, lang), true
}

// resolved returns the blocks of e with what its quotes and counts show in its language.
func resolved(s api.State, e api.Edition) []api.Block {
	var l []api.Block
	for _, b := range e.Blocks {
		switch b.Kind {
		case api.BQuote:
			b.Text = Resolve(s, e.Lang, b)
		case api.BCount:
			b.Text += ": " + Resolve(s, e.Lang, b)
			b.Kind = api.BParagraph
		}
		l = append(l, b)
	}
	return l
}

// notices returns the lines about the corrections of story in lang.
func notices(story api.Story, lang string) string {
	var lines strings.Builder
	for _, c := range story.Corrections {
		if c.Lang == lang {
			lines.WriteString("Correction: " + c.Text + "\n")
		}
	}
	return lines.String()
}
