package fact_test

import (
	"encoding/binary"
	"math"
	"math/rand"
	"slices"
	"strings"

	"copydesk/api"
	"copydesk/block"
	"copydesk/label"
	"copydesk/wire"
)

const nameBytes = "abcdefghijklmnopqrstuvwxyz0123456789-"

// table returns the chapter's table of kinds: the fields that each of them uses, in the order of their encoding.
func table() map[int][]string {
	return map[int][]string{
		1:  {"Story", "Lang", "Rev", "Base", "Title", "Author", "Topics", "Blocks", "Label"},
		2:  {"Story", "Editor"},
		3:  {"Story", "Label"},
		4:  {"Story", "Lang", "Block", "Sentence", "Text"},
		5:  {"Story", "Text"},
		6:  {"Story"},
		7:  {"Name", "Text"},
		8:  {"Partner", "Class", "Until"},
		9:  {"Partner", "Until"},
		10: {"Story"},
	}
}

// numbers returns the fields that contain numbers, except N, Time and Kind.
func numbers(f *api.Fact) map[string]*int {
	return map[string]*int{
		"Story": &f.Story, "Rev": &f.Rev, "Base": &f.Base, "Editor": &f.Editor, "Block": &f.Block,
		"Sentence": &f.Sentence, "Partner": &f.Partner, "Class": &f.Class, "Until": &f.Until,
	}
}

// texts returns the fields that contain strings.
func texts(f *api.Fact) map[string]*string {
	return map[string]*string{"Lang": &f.Lang, "Title": &f.Title, "Author": &f.Author, "Text": &f.Text, "Name": &f.Name}
}

// bounds returns the smallest and the largest number that a field of f may contain if its kind uses it.
func bounds(f api.Fact, field string) (int, int) {
	switch field {
	case "Story":
		return 1, 64
	case "Rev":
		return 1, 100
	case "Base":
		return 0, f.Rev - 1
	case "Editor":
		return 1, 5
	case "Block":
		return 1, 1000
	case "Sentence":
		return 0, 299
	case "Partner":
		return 1, 8
	case "Class":
		return 0, 3
	}
	return 0, 1000000000
}

// isNameOf reports whether s is a name.
func isNameOf(s string) bool {
	return 1 <= len(s) && len(s) <= 20 && strings.Trim(s, nameBytes) == ""
}

// mayBe reports whether a string field of a kind that uses it may contain s.
func mayBe(kind int, field string, s string) bool {
	least, most, newlines := 1, 300, false
	switch {
	case field == "Lang" || field == "Author" || field == "Name":
		return isNameOf(s)
	case kind == 7:
		least, most, newlines = 0, 1000, true
	}
	for _, b := range []byte(s) {
		if (b < 32 || b > 126) && !(newlines && b == 10) {
			return false
		}
	}
	return least <= len(s) && len(s) <= most
}

// areTopicsOf reports whether l is a valid list of topics.
func areTopicsOf(l []string) bool {
	for i, s := range l {
		if !isNameOf(s) || i > 0 && strings.Compare(l[i-1], s) >= 0 {
			return false
		}
	}
	return len(l) <= 4
}

// isValid decides whether f is valid, as the chapter defines it.
func isValid(f api.Fact) bool {
	fields, known := table()[f.Kind]
	if !known || f.N < 0 || f.N > 500 || f.Time < 0 || f.Time > 1000000000 {
		return false
	}
	for field, n := range numbers(&f) {
		low, high := 0, 0
		if slices.Contains(fields, field) {
			low, high = bounds(f, field)
		}
		if *n < low || *n > high {
			return false
		}
	}
	for field, s := range texts(&f) {
		used := slices.Contains(fields, field)
		if used && !mayBe(f.Kind, field, *s) || !used && *s != "" {
			return false
		}
	}
	if f.Kind != api.FRevise && (len(f.Topics) > 0 || len(f.Blocks) > 0) {
		return false
	}
	if f.Kind != api.FRevise && f.Kind != api.FPublish && !label.Same(f.Label, api.Label{}) {
		return false
	}
	return areTopicsOf(f.Topics) && block.ValidList(f.Blocks) && label.Valid(f.Label)
}

// ints returns the encodings of numbers, one after the other. The standard library's zigzag varint is the same encoding.
func ints(l ...int) string {
	var b []byte
	for _, n := range l {
		b = binary.AppendVarint(b, int64(n))
	}
	return string(b)
}

// str returns the encoding of a string.
func str(s string) string {
	return ints(len(s)) + s
}

// labelCode returns the encoding of a label.
func labelCode(l api.Label) string {
	return ints(l.Until, len(l.After)) + ints(l.After...) + ints(l.Approvals, l.Denied)
}

// reference encodes a fact as the chapter defines it.
func reference(f api.Fact) string {
	s := ints(f.N, f.Time, f.Kind)
	for _, field := range table()[f.Kind] {
		if n, ok := numbers(&f)[field]; ok {
			s += ints(*n)
		} else if t, ok := texts(&f)[field]; ok {
			s += str(*t)
		} else if field == "Topics" {
			s += ints(len(f.Topics))
			for _, topic := range f.Topics {
				s += str(topic)
			}
		} else if field == "Blocks" {
			blocks, _ := block.Encode(f.Blocks)
			s += str(blocks)
		} else {
			s += labelCode(f.Label)
		}
	}
	return s
}

// scan reads a string as the chapter defines it, up to the first error.
type scan struct {
	s   string
	at  int
	err api.Errno
}

func (c *scan) int() int {
	if c.err != api.OK {
		return 0
	}
	n, next, err := wire.Int(c.s, c.at)
	if err != api.OK {
		c.err = api.ErrWire
	}
	c.at = next
	return n
}

func (c *scan) string() string {
	if c.err != api.OK {
		return ""
	}
	s, next, err := wire.String(c.s, c.at)
	if err != api.OK {
		c.err = api.ErrWire
	}
	c.at = next
	return s
}

// refuse notes the error ErrFact if there is none yet.
func (c *scan) refuse(bad bool) {
	if bad && c.err == api.OK {
		c.err = api.ErrFact
	}
}

func (c *scan) length(most int) int {
	n := c.int()
	c.refuse(n < 0 || n > most)
	if c.err != api.OK {
		return 0
	}
	return n
}

func (c *scan) field(f *api.Fact, field string) {
	if n, ok := numbers(f)[field]; ok {
		*n = c.int()
	} else if t, ok := texts(f)[field]; ok {
		*t = c.string()
	} else if field == "Topics" {
		for range c.length(4) {
			f.Topics = append(f.Topics, c.string())
		}
	} else if field == "Blocks" {
		blocks, err := block.Decode(c.string())
		c.refuse(err != api.OK)
		f.Blocks = blocks
	} else {
		f.Label.Until = c.int()
		for range c.length(64) {
			f.Label.After = append(f.Label.After, c.int())
		}
		f.Label.Approvals, f.Label.Denied = c.int(), c.int()
	}
}

// decoded returns the result of Decode as the chapter defines it.
func decoded(s string) (api.Fact, api.Errno) {
	c, f := &scan{s: s}, api.Fact{}
	f.N, f.Time, f.Kind = c.int(), c.int(), c.int()
	fields, known := table()[f.Kind]
	c.refuse(!known)
	for _, field := range fields {
		c.field(&f, field)
	}
	switch {
	case c.err != api.OK:
		return api.Fact{}, c.err
	case c.at < len(s):
		return api.Fact{}, api.ErrWire
	case !isValid(f):
		return api.Fact{}, api.ErrFact
	}
	return f, api.OK
}

// fullLabel returns a label in which no field is zero.
func fullLabel() api.Label {
	return api.Label{Until: 120, After: []int{2, 5}, Approvals: 2, Denied: 9}
}

// examples returns a valid fact of each kind, by kinds, without a zero in any field that the kind uses.
func examples() []api.Fact {
	blocks := []api.Block{{ID: 1, Kind: api.BParagraph, Text: "It rained."}, {ID: 2, Kind: api.BQuote, Text: "so", Story: 3, Ref: 9, Label: fullLabel()}}
	return []api.Fact{
		{N: 3, Time: 100, Kind: 1, Story: 7, Lang: "en", Rev: 3, Base: 2, Title: "Rain", Author: "ann", Topics: []string{"city", "rain"}, Blocks: blocks, Label: fullLabel()},
		{N: 4, Time: 101, Kind: 2, Story: 8, Editor: 2},
		{N: 5, Time: 102, Kind: 3, Story: 9, Label: fullLabel()},
		{N: 6, Time: 103, Kind: 4, Story: 10, Lang: "fr", Block: 300, Sentence: 4, Text: "No."},
		{N: 7, Time: 104, Kind: 5, Story: 11, Text: "Wrong."},
		{N: 8, Time: 105, Kind: 6, Story: 12},
		{N: 9, Time: 106, Kind: 7, Name: "front", Text: "a\nb"},
		{N: 10, Time: 107, Kind: 8, Partner: 3, Class: 1, Until: 5000},
		{N: 11, Time: 108, Kind: 9, Partner: 4, Until: 6000},
		{N: 12, Time: 109, Kind: 10, Story: 13},
	}
}

// longest returns the revision with the longest encoding.
func longest() api.Fact {
	l := api.Label{Until: api.MaxTime, After: allStories(), Approvals: 5, Denied: 15}
	f := api.Fact{N: 500, Time: api.MaxTime, Kind: api.FRevise, Story: 64, Lang: strings.Repeat("z", 20), Rev: 100, Base: 99, Label: l}
	f.Title, f.Author = strings.Repeat("~", 300), strings.Repeat("-", 20)
	for _, first := range "abcd" {
		f.Topics = append(f.Topics, strings.Repeat(string(first), 20))
	}
	for i := range 24 {
		f.Blocks = append(f.Blocks, api.Block{ID: 1000 - i, Kind: api.BQuote, Text: f.Title, Story: 64, Ref: 1000, Label: l})
	}
	return f
}

// allStories returns the longest valid After.
func allStories() []int {
	var l []int
	for id := 1; id <= 64; id++ {
		l = append(l, id)
	}
	return l
}

// someString returns a string of least to most of the given bytes.
func someString(r *rand.Rand, least int, most int, bytes string) string {
	b := make([]byte, least+r.Intn(most-least+1))
	for i := range b {
		b[i] = bytes[r.Intn(len(bytes))]
	}
	return string(b)
}

// someLabel returns a valid label.
func someLabel(r *rand.Rand) api.Label {
	l := api.Label{Until: r.Intn(2) * r.Intn(api.MaxTime+1), Approvals: r.Intn(6), Denied: r.Intn(16)}
	for id := range 64 {
		if r.Intn(20) == 0 {
			l.After = append(l.After, id+1)
		}
	}
	return l
}

// someBlocks returns a valid list of few blocks.
func someBlocks(r *rand.Rand) []api.Block {
	var l []api.Block
	for i := range r.Intn(4) {
		l = append(l, api.Block{ID: 10*i + 1 + r.Intn(10), Kind: api.BHeading + r.Intn(2), Text: someString(r, 1, 9, "ab .!"), Label: someLabel(r)})
	}
	return l
}

// someFact returns a valid fact of any kind.
func someFact(r *rand.Rand) api.Fact {
	f := api.Fact{N: r.Intn(501), Time: r.Intn(1000000001), Kind: 1 + r.Intn(10)}
	for _, field := range table()[f.Kind] {
		if n, ok := numbers(&f)[field]; ok {
			low, high := bounds(f, field)
			*n = low + r.Intn(high-low+1)
		} else if s, ok := texts(&f)[field]; ok {
			*s = someString(r, 1, 20, nameBytes)
		} else if field == "Topics" {
			for i := range r.Intn(5) {
				f.Topics = append(f.Topics, string(nameBytes[i])+someString(r, 0, 3, nameBytes))
			}
		} else if field == "Blocks" {
			f.Blocks = someBlocks(r)
		} else {
			f.Label = someLabel(r)
		}
	}
	return f
}

// outside returns numbers that no field may contain; some of them are 0 or small in their lowest bits.
func outside() []int {
	return []int{math.MinInt, math.MinInt + 1, -1 << 32, 1 - 1<<32, -256, -2, -1, 1000000001, 1 << 32, 1<<32 + 1, 1 << 61, api.MaxInt, 1 << 62, math.MaxInt}
}

// roomy returns f with spare room in all of its lists.
func roomy(f api.Fact) api.Fact {
	f.Topics = append(make([]string, 0, 9), f.Topics...)
	f.Label.After = append(make([]int, 0, 70), f.Label.After...)
	f.Blocks = append(make([]api.Block, 0, 30), f.Blocks...)
	for i := range f.Blocks {
		f.Blocks[i].Label.After = append(make([]int, 0, 70), f.Blocks[i].Label.After...)
	}
	return f
}

// scribble overwrites all memory of the lists of f, including the spare room.
func scribble(f api.Fact) {
	for _, b := range append([]api.Block{{Label: f.Label}}, f.Blocks...) {
		after := b.Label.After[:cap(b.Label.After)]
		for i := range after {
			after[i] = -77
		}
	}
	topics := f.Topics[:cap(f.Topics)]
	for i := range topics {
		topics[i] = "scribble"
	}
	blocks := f.Blocks[:cap(f.Blocks)]
	for i := range blocks {
		blocks[i] = api.Block{ID: -77}
	}
}
