package block_test

import (
	"math/rand"
	"slices"
	"strings"
	"testing"

	"copydesk/api"
	"copydesk/block"
)

// endsAfter decides as the chapter defines it whether a sentence of s ends after the byte at i.
func endsAfter(s string, i int) bool {
	last := i == len(s)-1
	if !strings.Contains(".!?", s[i:i+1]) || !last && s[i+1] != ' ' {
		return false
	}
	if s[i] != '.' || i == 0 {
		return true
	}
	uppercase := strings.Contains("ABCDEFGHIJKLMNOPQRSTUVWXYZ", s[i-1:i])
	return !(uppercase && (i == 1 || s[i-2] == ' '))
}

// divided divides s as the chapter defines it, byte by byte.
func divided(s string) []string {
	var l []string
	sentence := ""
	for i := range len(s) {
		sentence += s[i : i+1]
		if endsAfter(s, i) {
			l, sentence = append(l, sentence), ""
		}
	}
	if strings.ReplaceAll(sentence, " ", "") != "" {
		l = append(l, sentence)
	}
	for i := range l {
		for strings.HasPrefix(l[i], " ") {
			l[i] = l[i][1:]
		}
		for strings.HasSuffix(l[i], " ") {
			l[i] = l[i][:len(l[i])-1]
		}
	}
	return l
}

// eachText calls f with all short strings of some bytes, and with random ones.
func eachText(f func(s string)) {
	bytes := "A.! x"
	all := []string{""}
	for n := 0; len(all[n]) < 7; n++ {
		for i := range len(bytes) {
			all = append(all, all[n]+bytes[i:i+1])
		}
	}
	for _, s := range all {
		f(s)
	}
	r := rand.New(rand.NewSource(8))
	for range 20000 {
		f(someString(r, 40, "AZ@[az.!?.  "))
		f(someString(r, 20, "A.? \x00\n\t\xa0\xff\xc3\x89"))
	}
}

// P3.1: the examples of the chapter, and the cases that it names.
func TestSentencesOfTheExamples(t *testing.T) {
	for s, want := range map[string][]string{
		"Dr. J. Smith  won.  Really?! At 3.5 to 1": {"Dr.", "J. Smith  won.", "Really?!", "At 3.5 to 1"},
		"A. B. C":         {"A. B. C"},
		"Is it? ":         {"Is it?"},
		"":                nil,
		" ":               nil,
		"    ":            nil,
		".":               {"."},
		" . ":             {"."},
		"A.":              {"A."},
		"A. ":             {"A."},
		" A. b.":          {"A. b."},
		"A! B? C.":        {"A!", "B?", "C."},
		"AB. C":           {"AB.", "C"},
		"a. b":            {"a.", "b"},
		"Z. b":            {"Z. b"},
		"@. b":            {"@.", "b"},
		"[. b":            {"[.", "b"},
		"1. b":            {"1.", "b"},
		"(A. b":           {"(A.", "b"},
		"\tA. b":          {"\tA.", "b"},
		"A.. b":           {"A..", "b"},
		"A.!":             {"A.!"},
		"A.B. c":          {"A.B.", "c"},
		"x. A. b":         {"x.", "A. b"},
		"a.b! c?d":        {"a.b!", "c?d"},
		"a.\nb":           {"a.\nb"},
		"a.\xc2\xa0b":     {"a.\xc2\xa0b"},
		"\n. \t":          {"\n.", "\t"},
		"\xff\xfe! \x00 ": {"\xff\xfe!", "\x00"},
		"  a  b.   c  ":   {"a  b.", "c"},
	} {
		if got := block.Sentences(s); !slices.Equal(got, want) {
			t.Errorf("Sentences(%q) = %q, want %q", s, got, want)
		}
	}
}

// P3.1
func TestSentencesAgreeWithTheDefinition(t *testing.T) {
	eachText(func(s string) {
		if got := block.Sentences(s); !slices.Equal(got, divided(s)) {
			t.Fatalf("Sentences(%q) = %q, want %q", s, got, divided(s))
		}
	})
}

// P3.3: no sentence is empty or has spaces around it, only spaces are lost, and dividing the joined sentences gives the same ones.
func TestSentencesKeepTheText(t *testing.T) {
	eachText(func(s string) {
		l := block.Sentences(s)
		for _, x := range l {
			if x == "" || x[0] == ' ' || x[len(x)-1] == ' ' {
				t.Fatalf("Sentences(%q) = %q", s, l)
			}
		}
		if strings.ReplaceAll(strings.Join(l, ""), " ", "") != strings.ReplaceAll(s, " ", "") {
			t.Fatalf("Sentences(%q) = %q: bytes are lost", s, l)
		}
		if again := block.Sentences(strings.Join(l, " ")); !slices.Equal(again, l) {
			t.Fatalf("Sentences(%q) = %q, but joined and divided again %q", s, l, again)
		}
	})
}

// P3.1: two results share no memory.
func TestSentencesReturnNewMemory(t *testing.T) {
	s := "One. Two! Three? Four"
	one, two := block.Sentences(s), block.Sentences(s)
	all := one[:cap(one)]
	for i := range all {
		all[i] = "changed"
	}
	if !slices.Equal(two, divided(s)) || !slices.Equal(block.Sentences(s), divided(s)) {
		t.Error("two results share memory")
	}
}

// P3.1: long texts are divided in one pass.
func TestSentencesOfLongTexts(t *testing.T) {
	n := 1 << 20
	for s, want := range map[string]int{strings.Repeat("a. ", n): n, strings.Repeat("A. ", n): 1, strings.Repeat(" ", n): 0, strings.Repeat(".", n): 1} {
		if got := len(block.Sentences(s)); got != want {
			t.Errorf("%d sentences of %.9q.., want %d", got, s, want)
		}
	}
}

// P3.1: the examples of the chapter, the line of each kind, and blocks that are not valid.
func TestPlainLines(t *testing.T) {
	l := []api.Block{
		{ID: 1, Kind: api.BHeading, Text: "Rain"}, {ID: 2, Kind: api.BParagraph, Text: "It rained.  It stopped."}, {ID: 3, Kind: api.BCount, Text: "rain"},
	}
	if s := block.Plain(l); s != "Rain\nIt rained. It stopped.\n#rain\n" {
		t.Errorf("Plain(%v) = %q", l, s)
	}
	text := " One.  Two  or.   \"A. B\" [c] "
	for kind, want := range map[int]string{
		api.BHeading:   text + "\n",
		api.BParagraph: "One. Two  or. \"A. B\" [c]\n",
		api.BQuote:     "\"" + text + "\"\n",
		api.BFigure:    "[" + text + "]\n",
		api.BCount:     "#" + text + "\n",
		0:              "", -1: "", 6: "", 257: "", 1<<32 + 1: "",
	} {
		b := api.Block{ID: -5, Kind: kind, Text: text, Story: 99, Label: api.Label{Until: -1, Denied: 15}}
		if s := block.Plain([]api.Block{b}); s != want {
			t.Errorf("Plain of kind %d = %q, want %q", kind, s, want)
		}
	}
	for kind, want := range map[int]string{api.BHeading: "\n", api.BParagraph: "\n", api.BQuote: "\"\"\n", api.BFigure: "[]\n", api.BCount: "#\n"} {
		if s := block.Plain([]api.Block{{Kind: kind}}); s != want {
			t.Errorf("Plain of kind %d without text = %q, want %q", kind, s, want)
		}
	}
	if s := block.Plain([]api.Block{{Kind: api.BParagraph, Text: "  a.\nb.\xff "}}); s != "a.\nb.\xff\n" {
		t.Errorf("Plain = %q", s)
	}
}

// P3.4: the plain text of a list is that of its parts, one after the other, whatever the blocks.
func TestPlainOfConcatenations(t *testing.T) {
	r := rand.New(rand.NewSource(9))
	if s := block.Plain(nil) + block.Plain([]api.Block{}); s != "" {
		t.Errorf("Plain of the empty list = %q", s)
	}
	for range 2000 {
		var l []api.Block
		for range r.Intn(30) {
			l = append(l, api.Block{ID: r.Intn(3), Kind: r.Intn(8) - 1, Text: someString(r, 12, "Ab.! \n\xff")})
		}
		for i := range len(l) + 1 {
			if block.Plain(l) != block.Plain(l[:i])+block.Plain(l[i:]) {
				t.Fatalf("Plain(%v) is not the concatenation at %d", l, i)
			}
		}
	}
}

// P3.4: one line for each block of a valid list.
func TestPlainHasOneLineForEachBlock(t *testing.T) {
	r := rand.New(rand.NewSource(10))
	lists := [][]api.Block{nil, examples(), headings(24), longest()}
	for range 1000 {
		lists = append(lists, someList(r))
	}
	for _, l := range lists {
		if s := block.Plain(l); strings.Count(s, "\n") != len(l) || len(l) > 0 && !strings.HasSuffix(s, "\n") {
			t.Fatalf("Plain(%v) = %q", l, s)
		}
	}
}
