package block

import (
	"iter"
	"strings"

	"copydesk/api"
)

// Sentences returns the sentences of text, without the spaces around them.
func Sentences(text string) []string {
	var l []string
	for part := range parts(text) {
		// Only what follows the last end can consist of spaces: every other part contains its end.
		if sentence := strings.Trim(part, " "); sentence != "" {
			l = append(l, sentence)
		}
	}
	return l
}

// Plain returns the lines of the blocks of l, each followed by a newline; blocks of unknown kinds have none.
func Plain(l []api.Block) string {
	var out strings.Builder
	known := kinds()
	for _, b := range l {
		if k, ok := known[b.Kind]; ok {
			out.WriteString(k.line(b.Text))
			out.WriteByte('\n')
		}
	}
	return out.String()
}

// parts cuts text after the end of each sentence and produces the pieces; the last one, after which no sentence ends, may be empty.
func parts(text string) iter.Seq[string] {
	return func(yield func(string) bool) {
		start := 0
	scan:
		for i := range len(text) {
			switch text[i] {
			case '!', '?':
			case '.':
				if followsInitial(text, i) {
					continue scan
				}
			default:
				continue scan
			}
			next := i + 1
			if next < len(text) && text[next] != ' ' {
				continue scan
			}
			if !yield(text[start:next]) {
				return
			}
			start = next
		}
		yield(text[start:])
	}
}

// followsInitial reports whether an initial is directly before offset i of text.
func followsInitial(text string, i int) bool {
	return i >= 1 && 'A' <= text[i-1] && text[i-1] <= 'Z' && (i == 1 || text[i-2] == ' ')
}

// unchanged returns the line of a heading.
func unchanged(text string) string {
	return text
}

// flowing returns the line of a paragraph.
func flowing(text string) string {
	return strings.Join(Sentences(text), " ")
}

// between returns a function that writes before and after around a text.
func between(before string, after string) func(text string) string {
	return func(text string) string { return before + text + after }
}
