package block_test

import (
	"math"
	"math/rand"
	"strings"
	"testing"

	"copydesk/api"
	"copydesk/block"
)

const nameBytes = "abcdefghijklmnopqrstuvwxyz0123456789-"

// examples returns a valid block of each kind.
func examples() []api.Block {
	return []api.Block{
		{ID: 1, Kind: api.BHeading, Text: "Rain"},
		{ID: 2, Kind: api.BParagraph, Text: "It rained.  It stopped.", Label: api.Label{Until: 7}},
		{ID: 3, Kind: api.BQuote, Text: "so it is said", Story: 3, Ref: 9, Label: api.Label{After: []int{2, 5}}},
		{ID: 4, Kind: api.BFigure, Text: "a map", Label: api.Label{Denied: 8}},
		{ID: 5, Kind: api.BCount, Text: "city-hall", Label: api.Label{Until: 1, After: []int{64}, Approvals: 5, Denied: 15}},
	}
}

// headings returns n valid blocks with the IDs from 1 on.
func headings(n int) []api.Block {
	var l []api.Block
	for i := range n {
		l = append(l, api.Block{ID: i + 1, Kind: api.BHeading, Text: "x"})
	}
	return l
}

// allStories returns the longest valid After.
func allStories() []int {
	var l []int
	for id := 1; id <= api.MaxStories; id++ {
		l = append(l, id)
	}
	return l
}

// someString returns a string of at most so many of the given bytes.
func someString(r *rand.Rand, most int, bytes string) string {
	b := make([]byte, r.Intn(most+1))
	for i := range b {
		b[i] = bytes[r.Intn(len(bytes))]
	}
	return string(b)
}

// printable returns all bytes of texts.
func printable() string {
	var b strings.Builder
	for c := byte(32); c <= 126; c++ {
		b.WriteByte(c)
	}
	return b.String()
}

// someBlock returns a valid block of any kind.
func someBlock(r *rand.Rand, id int) api.Block {
	b := api.Block{ID: id, Kind: 1 + r.Intn(5)}
	b.Label = api.Label{Until: r.Intn(2) * r.Intn(api.MaxTime+1), Approvals: r.Intn(6), Denied: r.Intn(16)}
	for id := range 64 {
		if r.Intn(20) == 0 {
			b.Label.After = append(b.Label.After, id+1)
		}
	}
	switch b.Kind {
	case api.BCount:
		b.Text = "x" + someString(r, 19, nameBytes)
	case api.BQuote:
		b.Text, b.Story, b.Ref = someString(r, 40, printable()), 1+r.Intn(64), 1+r.Intn(1000)
	default:
		b.Text = "x" + someString(r, 299, "ab AB.!? ")
	}
	return b
}

// someList returns a valid list.
func someList(r *rand.Rand) []api.Block {
	var l []api.Block
	for _, id := range r.Perm(1000)[:r.Intn(25)] {
		l = append(l, someBlock(r, id+1))
	}
	return l
}

// checkValid checks what Valid says of b, and that lists of b and Encode agree with it.
func checkValid(t *testing.T, b api.Block, want bool) {
	t.Helper()
	if block.Valid(b) != want || block.ValidList([]api.Block{b}) != want {
		t.Errorf("Valid(%v) = %v, and %v in a list; want %v", b, block.Valid(b), block.ValidList([]api.Block{b}), want)
	}
	if s, err := block.Encode([]api.Block{b}); (err == api.OK) != want || !want && (err != api.ErrBlock || s != "") {
		t.Errorf("Encode of %v gives %q, error %d", b, s, err)
	}
}

// P3.1: the examples of the chapter.
func TestValidOfTheExamples(t *testing.T) {
	checkValid(t, api.Block{ID: 7, Kind: api.BCount, Text: "city-hall"}, true)
	checkValid(t, api.Block{ID: 7, Kind: api.BCount, Text: "City"}, false)
	checkValid(t, api.Block{ID: 7, Kind: api.BQuote, Story: 3}, false)
	for _, b := range examples() {
		checkValid(t, b, true)
	}
	checkValid(t, api.Block{}, false)
}

// P3.1: the bounds of ID and Kind; some of the integers are 0 in their lowest bits.
func TestValidIDAndKind(t *testing.T) {
	for _, b := range examples() {
		for _, n := range []int{1, 2, 500, 999, 1000} {
			b.ID = n
			checkValid(t, b, true)
		}
		for _, n := range []int{0, -1, 1001, 1 << 32, 1<<32 + 1, math.MaxInt, math.MinInt} {
			b.ID = n
			checkValid(t, b, false)
		}
		b.ID = 1
		for _, n := range []int{0, -1, 6, 7, 256 + b.Kind, 1<<32 + b.Kind, math.MaxInt, math.MinInt} {
			b.Kind = n
			checkValid(t, b, false)
		}
	}
}

// P3.1: Story and Ref name a block in a quote, and nothing in any other kind.
func TestValidStoryAndRef(t *testing.T) {
	numbers := []int{math.MinInt, -1, 0, 1, 2, 63, 64, 65, 999, 1000, 1001, 1 << 32, 1<<32 + 1, math.MaxInt}
	for _, b := range examples() {
		for _, b.Story = range numbers {
			for _, b.Ref = range numbers {
				if b.Kind == api.BQuote {
					checkValid(t, b, 1 <= b.Story && b.Story <= 64 && 1 <= b.Ref && b.Ref <= 1000)
				} else {
					checkValid(t, b, b.Story == 0 && b.Ref == 0)
				}
			}
		}
	}
}

// P3.1: each byte, at the beginning, in the middle and at the end of a text or name.
func TestValidBytesOfText(t *testing.T) {
	for _, b := range examples() {
		for c := range 256 {
			s := string([]byte{byte(c)})
			want := 32 <= c && c <= 126
			if b.Kind == api.BCount {
				want = strings.Contains(nameBytes, s)
			}
			for _, b.Text = range []string{s, s + "ab", "a" + s + "b", "ab" + s} {
				checkValid(t, b, want)
			}
		}
		for _, b.Text = range []string{"caf\xc3\xa9", "\xe2\x80\x9crain\xe2\x80\x9d", "rain\n", "\x00", "a\x00b"} {
			checkValid(t, b, false)
		}
	}
}

// P3.1: the length of a text, which only in a quote may be 0, and that of a name.
func TestValidLengthOfText(t *testing.T) {
	for _, b := range examples() {
		least, most := 1, 300
		switch b.Kind {
		case api.BQuote:
			least = 0
		case api.BCount:
			most = 20
		}
		for _, n := range []int{0, 1, 2, 19, 20, 21, 255, 256, 299, 300, 301, 600, 70000} {
			b.Text = strings.Repeat("x", n)
			checkValid(t, b, least <= n && n <= most)
		}
	}
}

// P3.1: the label must be valid.
func TestValidLabel(t *testing.T) {
	for _, b := range examples() {
		for _, l := range []api.Label{
			{}, {After: []int{}}, {Until: api.MaxTime, After: allStories(), Approvals: 5, Denied: 15}, {After: []int{1, 64}},
		} {
			b.Label = l
			checkValid(t, b, true)
		}
		for _, l := range []api.Label{
			{Until: -1}, {Until: api.MaxTime + 1}, {After: []int{0}}, {After: []int{65}}, {After: []int{2, 2}}, {After: []int{3, 2}},
			{After: append(allStories(), 64)}, {Approvals: -1}, {Approvals: 6}, {Denied: -1}, {Denied: 16},
		} {
			b.Label = l
			checkValid(t, b, false)
		}
	}
}

// P3.1: the number of blocks.
func TestValidListLength(t *testing.T) {
	for _, n := range []int{0, 1, 23, 24, 25, 26, 1000} {
		if block.ValidList(headings(n)) != (n <= 24) {
			t.Errorf("ValidList of %d blocks", n)
		}
	}
	if !block.ValidList(nil) || !block.ValidList([]api.Block{}) {
		t.Error("the empty list is not valid")
	}
}

// P3.1: one block that is not valid, or one ID that occurs twice, is enough, wherever it is.
func TestValidListChecksEachBlock(t *testing.T) {
	r := rand.New(rand.NewSource(1))
	for range 300 {
		if l := someList(r); !block.ValidList(l) {
			t.Fatalf("ValidList(%v) = false", l)
		}
	}
	for i := range 24 {
		l := headings(24)
		l[i].Text = ""
		if block.ValidList(l) {
			t.Errorf("block %d is not valid, but the list is", i)
		}
		for k := range i {
			l = headings(24)
			l[i] = examples()[1]
			l[i].ID = l[k].ID
			if block.ValidList(l) {
				t.Errorf("blocks %d and %d have the same ID, but the list is valid", i, k)
			}
		}
	}
}

// changes returns functions each of which changes one field of a block.
func changes() []func(b *api.Block) {
	return []func(b *api.Block){
		func(b *api.Block) { b.ID++ },
		func(b *api.Block) { b.ID += 1 << 32 },
		func(b *api.Block) { b.Kind++ },
		func(b *api.Block) { b.Text += " " },
		func(b *api.Block) { b.Text = strings.ToUpper(b.Text) + "." },
		func(b *api.Block) { b.Story++ },
		func(b *api.Block) { b.Ref-- },
		func(b *api.Block) { b.Story, b.Ref = b.Story+1, b.Ref-1 },
		func(b *api.Block) { b.Label.Until-- },
		func(b *api.Block) { b.Label.After = append([]int{0}, b.Label.After...) },
		func(b *api.Block) { b.Label.Approvals++ },
		func(b *api.Block) { b.Label.Denied += 16 },
	}
}

// manyBlocks returns valid and invalid blocks.
func manyBlocks() []api.Block {
	return append(examples(),
		api.Block{},
		api.Block{ID: -1, Kind: 9, Text: "\x00\xff", Story: -3, Ref: 70000, Label: api.Label{Until: -1, After: []int{9, 9, 1}, Approvals: -1, Denied: 99}},
	)
}

// P3.1: blocks with equal fields are the same, in whatever memory; a difference in one field is a difference.
func TestSame(t *testing.T) {
	for _, a := range manyBlocks() {
		b := a
		b.Text = string([]byte(a.Text))
		b.Label.After = append(make([]int, 0, 100), a.Label.After...)
		if !block.Same(a, a) || !block.Same(a, b) || !block.Same(b, a) {
			t.Errorf("Same(%v, %v) = false", a, b)
		}
		for i, change := range changes() {
			c := a
			change(&c)
			if block.Same(a, c) || block.Same(c, a) {
				t.Errorf("change %d: Same(%v, %v) = true", i, a, c)
			}
		}
	}
}

// P3.1: lists are the same if their lengths are, and their blocks at each index.
func TestSameList(t *testing.T) {
	if !block.SameList(nil, []api.Block{}) || !block.SameList([]api.Block{}, nil) || !block.SameList(nil, nil) {
		t.Error("nil and empty lists are not the same")
	}
	l := manyBlocks()
	for i := range l {
		if !block.SameList(l[:i], manyBlocks()[:i]) {
			t.Errorf("lists of %d blocks are not the same", i)
		}
		if block.SameList(l, l[:i]) || block.SameList(l[:i], l) {
			t.Errorf("lists of %d and %d blocks are the same", len(l), i)
		}
		for n, change := range changes() {
			other := manyBlocks()
			change(&other[i])
			if block.SameList(l, other) || block.SameList(other, l) {
				t.Errorf("change %d of block %d: the lists are the same", n, i)
			}
		}
		other := manyBlocks()
		other[0], other[i] = other[i], other[0]
		if block.SameList(l, other) != (i == 0) {
			t.Errorf("blocks 0 and %d exchanged", i)
		}
	}
}
