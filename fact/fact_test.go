package fact_test

import (
	"math/rand"
	"slices"
	"strings"
	"testing"

	"copydesk/api"
	"copydesk/block"
	"copydesk/fact"
)

// checkValid checks what Valid says of f, and that Encode agrees with it.
func checkValid(t *testing.T, f api.Fact, want bool) {
	t.Helper()
	if fact.Valid(f) != want {
		t.Errorf("Valid(%v) = %v", f, !want)
	}
	if isValid(f) != want {
		t.Errorf("the reference says of %v: %v", f, !want)
	}
	if s, err := fact.Encode(f); (err == api.OK) != want || !want && (err != api.ErrFact || s != "") {
		t.Errorf("Encode(%v) = %q, error %d", f, s, err)
	}
}

// P5.1: the examples of the chapter, and a fact of each kind.
func TestValidOfTheExamples(t *testing.T) {
	approval := api.Fact{N: 1, Kind: api.FApprove, Story: 3, Editor: 2}
	checkValid(t, approval, true)
	approval.Editor = 6
	checkValid(t, approval, false)
	approval.Editor, approval.Lang = 2, "en"
	checkValid(t, approval, false)
	checkValid(t, api.Fact{Kind: api.FPublish, Story: 64, Label: api.Label{Denied: 1}}, true)
	checkValid(t, api.Fact{Kind: api.FPublish, Story: 65}, false)
	for i, f := range examples() {
		if f.Kind != i+1 {
			t.Fatal("the examples are not in order")
		}
		checkValid(t, f, true)
	}
	checkValid(t, longest(), true)
	checkValid(t, api.Fact{}, false)
}

// P5.1: the least that each kind needs; all other fields are zero.
func TestValidOfSmallFacts(t *testing.T) {
	for _, f := range []api.Fact{
		{Kind: api.FRevise, Story: 1, Lang: "-", Rev: 1, Title: " ", Author: "0"},
		{Kind: api.FApprove, Story: 1, Editor: 1},
		{Kind: api.FPublish, Story: 1},
		{Kind: api.FCorrect, Story: 1, Lang: "z", Block: 1, Text: " "},
		{Kind: api.FRetract, Story: 1, Text: "~"},
		{Kind: api.FTakedown, Story: 1},
		{Kind: api.FTemplate, Name: "a"},
		{Kind: api.FPartner, Partner: 1},
		{Kind: api.FLease, Partner: 1},
		{Kind: api.FGone, Story: 1},
	} {
		checkValid(t, f, true)
		f.Topics, f.Blocks, f.Label.After = []string{}, []api.Block{}, []int{}
		checkValid(t, f, true)
	}
}

// P5.1: each kind with the fields of each other kind.
func TestValidKind(t *testing.T) {
	// A label and a class may be zero, so that fewer fields are enough for these kinds.
	also := map[int][]int{
		api.FTakedown: {api.FGone, api.FPublish},
		api.FGone:     {api.FTakedown, api.FPublish},
		api.FLease:    {api.FPartner},
	}
	for _, f := range examples() {
		kind := f.Kind
		for _, f.Kind = range append(outside(), 0, 1, 2, 3, 4, 5, 6, 7, 8, 9, 10, 11, 12, 256+kind, 1<<32+kind) {
			checkValid(t, f, f.Kind == kind || slices.Contains(also[kind], f.Kind))
		}
	}
}

// P5.1: the bounds of N and Time, in each kind.
func TestValidNAndTime(t *testing.T) {
	for _, f := range examples() {
		g := f
		for _, g.N = range []int{0, 1, 2, 499, 500} {
			checkValid(t, g, true)
		}
		for _, g.N = range append(outside(), 501, 502, 1000000000) {
			checkValid(t, g, false)
		}
		for _, f.Time = range []int{0, 1, 500, 501, 999999999, 1000000000} {
			checkValid(t, f, true)
		}
		for _, f.Time = range outside() {
			checkValid(t, f, false)
		}
	}
}

// P5.1: the bounds of each other number in the kinds that use it; in all others it is 0.
func TestValidNumbers(t *testing.T) {
	for i, f := range examples() {
		for field, n := range numbers(&f) {
			low, high := 0, 0
			if slices.Contains(table()[f.Kind], field) {
				low, high = bounds(f, field)
			}
			if field == "Rev" && f.Kind == api.FRevise {
				// Below, there is no room for the Base of the example.
				low = f.Base + 1
			}
			for _, *n = range append(outside(), low-1, low, low+1, high-1, high, high+1, 0, 1) {
				checkValid(t, f, low <= *n && *n <= high)
			}
			*n = *numbers(&examples()[i])[field]
		}
	}
}

// P5.1: the Base of a revision is less than its Rev.
func TestValidRevAndBase(t *testing.T) {
	f := examples()[0]
	for _, f.Rev = range append(outside(), 0, 1, 2, 3, 50, 99, 100, 101) {
		for _, f.Base = range append(outside(), 0, 1, 2, 3, 49, 50, 51, 98, 99, 100, 101, f.Rev-1, f.Rev) {
			checkValid(t, f, 1 <= f.Rev && f.Rev <= 100 && 0 <= f.Base && f.Base < f.Rev)
		}
	}
}

// P5.1: each byte, alone and at the beginning, in the middle and at the end of a string.
func TestValidBytes(t *testing.T) {
	for i, f := range examples() {
		for field, s := range texts(&f) {
			used := slices.Contains(table()[f.Kind], field)
			for c := range 256 {
				x := string([]byte{byte(c)})
				want := 32 <= c && c <= 126 || f.Kind == api.FTemplate && c == 10
				if field == "Lang" || field == "Author" || field == "Name" {
					want = strings.Contains(nameBytes, x)
				}
				for _, *s = range []string{x, x + "ab", "a" + x + "b", "ab" + x} {
					checkValid(t, f, used && want)
				}
			}
			*s = *texts(&examples()[i])[field]
		}
	}
}

// P5.1: the length of each string in the kinds that use it; in all others it is empty.
func TestValidLengths(t *testing.T) {
	for i, f := range examples() {
		for field, s := range texts(&f) {
			least, most := 1, 300
			switch {
			case !slices.Contains(table()[f.Kind], field):
				least, most = 0, 0
			case field == "Lang" || field == "Author" || field == "Name":
				most = 20
			case f.Kind == api.FTemplate:
				least, most = 0, 1000
			}
			for _, n := range []int{0, 1, 2, 19, 20, 21, 255, 256, 257, 299, 300, 301, 999, 1000, 1001, 65536, 65537} {
				*s = strings.Repeat("x", n)
				checkValid(t, f, least <= n && n <= most)
			}
			*s = *texts(&examples()[i])[field]
		}
	}
}

// P5.1: topics are at most four ascending names, and only revisions have them.
func TestValidTopics(t *testing.T) {
	full := strings.Repeat("x", 20)
	for _, f := range examples() {
		revision := f.Kind == api.FRevise
		for _, f.Topics = range [][]string{{"a"}, {"a", "b"}, {"-", "0", "a", "z"}, {"a", "aa", "aaa", "ab"}, {"1", "10", "2"}, {full}, {full[:19], full}} {
			checkValid(t, f, revision)
		}
		for _, f.Topics = range [][]string{
			{"b", "a"}, {"a", "a"}, {"a", "b", "b"}, {"a", "c", "b"}, {"a", "b", "a"}, {"aa", "a"}, {"2", "10"}, {"a", "b", "c", "d", "d"},
			{"a", "b", "c", "d", "e"}, {""}, {"", "a"}, {"a", ""}, {"A"}, {"a", "b", "c", "D"}, {"a b"}, {"a", "b\n"}, {full + "x"}, {"a", full + "x"},
			{"a", "b", "c", "d\x00"}, {"\xc3\xa9"}, make([]string, 100000),
		} {
			checkValid(t, f, false)
		}
		f.Topics = nil
		checkValid(t, f, true)
		f.Topics = []string{}
		checkValid(t, f, true)
	}
}

// P5.1: only revisions have blocks, of which each and the list are valid.
func TestValidBlocks(t *testing.T) {
	list := longest().Blocks
	for _, f := range examples() {
		revision := f.Kind == api.FRevise
		for _, f.Blocks = range [][]api.Block{list[:1], list, examples()[0].Blocks, {{ID: 1, Kind: api.BCount, Text: "city"}}} {
			checkValid(t, f, revision)
		}
		for _, f.Blocks = range [][]api.Block{
			{{}}, {list[0], list[0]}, append(slices.Clone(list), api.Block{ID: 1, Kind: api.BHeading, Text: "x"}), {{ID: 1, Kind: api.BHeading}},
			{{ID: 1001, Kind: api.BHeading, Text: "x"}}, {{ID: 1, Kind: 6, Text: "x"}}, {list[0], {ID: 1, Kind: api.BHeading, Text: "x", Label: api.Label{Denied: 16}}},
		} {
			if block.ValidList(f.Blocks) {
				t.Fatal("valid:", f.Blocks)
			}
			checkValid(t, f, false)
		}
		f.Blocks = nil
		checkValid(t, f, true)
		f.Blocks = []api.Block{}
		checkValid(t, f, true)
	}
}

// P5.1: only revisions and publications have labels that are not zero.
func TestValidLabel(t *testing.T) {
	for _, f := range examples() {
		labelled := f.Kind == api.FRevise || f.Kind == api.FPublish
		for _, f.Label = range []api.Label{{Until: 1}, {Until: api.MaxTime}, {After: []int{64}}, {After: allStories()}, {Approvals: 5}, {Denied: 15}, fullLabel(), longest().Label} {
			checkValid(t, f, labelled)
		}
		for _, f.Label = range []api.Label{
			{Until: -1}, {Until: api.MaxTime + 1}, {After: []int{0}}, {After: []int{65}}, {After: []int{2, 2}}, {After: []int{3, 2}},
			{After: append(allStories(), 64)}, {Approvals: -1}, {Approvals: 6}, {Denied: -1}, {Denied: 16},
		} {
			checkValid(t, f, false)
		}
		for _, f.Label = range []api.Label{{}, {After: []int{}}} {
			checkValid(t, f, true)
		}
	}
}

// changes returns functions each of which changes one field of a fact, so that it is not zero.
func changes() map[string]func(f *api.Fact) {
	return map[string]func(f *api.Fact){
		"N":               func(f *api.Fact) { f.N += 1 << 32 },
		"Time":            func(f *api.Fact) { f.Time++ },
		"Kind":            func(f *api.Fact) { f.Kind = f.Kind%10 + 1 },
		"Story":           func(f *api.Fact) { f.Story++ },
		"Lang":            func(f *api.Fact) { f.Lang += "x" },
		"Rev":             func(f *api.Fact) { f.Rev++ },
		"Base":            func(f *api.Fact) { f.Base++ },
		"Title":           func(f *api.Fact) { f.Title += " " },
		"Author":          func(f *api.Fact) { f.Author += "x" },
		"Topics":          func(f *api.Fact) { f.Topics = append([]string{"a"}, f.Topics...) },
		"Blocks":          func(f *api.Fact) { f.Blocks = append([]api.Block{{ID: 9}}, f.Blocks...) },
		"Label.Until":     func(f *api.Fact) { f.Label.Until++ },
		"Label.After":     func(f *api.Fact) { f.Label.After = append([]int{1}, f.Label.After...) },
		"Label.Approvals": func(f *api.Fact) { f.Label.Approvals++ },
		"Label.Denied":    func(f *api.Fact) { f.Label.Denied += 4 },
		"Editor":          func(f *api.Fact) { f.Editor++ },
		"Block":           func(f *api.Fact) { f.Block++ },
		"Sentence":        func(f *api.Fact) { f.Sentence++ },
		"Text":            func(f *api.Fact) { f.Text += "\x00" },
		"Name":            func(f *api.Fact) { f.Name += "x" },
		"Partner":         func(f *api.Fact) { f.Partner++ },
		"Class":           func(f *api.Fact) { f.Class-- },
		"Until":           func(f *api.Fact) { f.Until++ },
	}
}

// manyFacts returns valid and invalid facts.
func manyFacts() []api.Fact {
	every := longest()
	every.Editor, every.Block, every.Sentence, every.Text, every.Name, every.Partner, every.Class, every.Until = 1, 2, 3, "t", "n", 4, 5, 6
	return append(examples(), longest(), every, api.Fact{},
		api.Fact{N: -1, Time: -1, Kind: 99, Lang: "\xff", Topics: []string{"b", "a", ""}, Blocks: []api.Block{{}, {ID: -4}}, Label: api.Label{Until: -1, After: []int{9, 9}}, Until: -1},
	)
}

// P5.1: facts with equal fields are the same, in whatever memory; a difference in one field is a difference.
func TestSame(t *testing.T) {
	for _, a := range manyFacts() {
		b := roomy(a)
		b.Text = string([]byte(a.Text))
		if !fact.Same(a, a) || !fact.Same(a, b) || !fact.Same(b, a) {
			t.Errorf("Same(%v, %v) = false", a, b)
		}
		for field, change := range changes() {
			c := roomy(a)
			change(&c)
			if fact.Same(a, c) || fact.Same(c, a) {
				t.Errorf("%s: Same(%v, %v) = true", field, a, c)
			}
		}
	}
}

// P5.1: each element of a list counts, wherever it is.
func TestSameComparesLists(t *testing.T) {
	a := longest()
	for i := range a.Topics {
		b := roomy(a)
		b.Topics[i] += "x"
		checkDifferent(t, a, b)
		b.Topics = slices.Delete(b.Topics, i, i+1)
		checkDifferent(t, a, b)
	}
	for i := range a.Blocks {
		b := roomy(a)
		b.Blocks[i].Text = "x"
		checkDifferent(t, a, b)
		b = roomy(a)
		b.Blocks[i].Label.After[3] = -1
		checkDifferent(t, a, b)
		b.Blocks = slices.Delete(b.Blocks, i, i+1)
		checkDifferent(t, a, b)
	}
	for i := range a.Label.After {
		b := roomy(a)
		b.Label.After[i]--
		checkDifferent(t, a, b)
	}
	b := roomy(a)
	slices.Reverse(b.Topics)
	checkDifferent(t, a, b)
}

func checkDifferent(t *testing.T, a api.Fact, b api.Fact) {
	t.Helper()
	if fact.Same(a, b) || fact.Same(b, a) {
		t.Errorf("Same(%v, %v) = true", a, b)
	}
}

// P5.1: random facts with random changes are as valid as the chapter says, and the same only if nothing has changed.
func TestValidAndSameOfChangedFacts(t *testing.T) {
	r := rand.New(rand.NewSource(1))
	valid := 0
	for range 20000 {
		f := someFact(r)
		checkValid(t, f, true)
		g := roomy(f)
		for field, change := range changes() {
			if r.Intn(23) == 0 {
				change(&g)
				if fact.Same(f, g) {
					t.Fatalf("%s: Same(%v, %v) = true", field, f, g)
				}
			}
		}
		checkValid(t, g, isValid(g))
		if isValid(g) {
			valid++
		}
	}
	if valid < 1000 || valid > 19000 {
		t.Errorf("%d changed facts are valid", valid)
	}
}

// P5.1: lists are the same if their lengths are, and their facts at each index.
func TestSameList(t *testing.T) {
	if !fact.SameList(nil, []api.Fact{}) || !fact.SameList([]api.Fact{}, nil) || !fact.SameList(nil, nil) {
		t.Error("nil and empty lists are not the same")
	}
	l := manyFacts()
	for i := range l {
		if !fact.SameList(l[:i], manyFacts()[:i]) {
			t.Errorf("lists of %d facts are not the same", i)
		}
		if fact.SameList(l, l[:i]) || fact.SameList(l[:i], l) {
			t.Errorf("lists of %d and %d facts are the same", len(l), i)
		}
		for field, change := range changes() {
			other := manyFacts()
			change(&other[i])
			if fact.SameList(l, other) || fact.SameList(other, l) {
				t.Errorf("fact %d, %s: the lists are the same", i, field)
			}
		}
		other := manyFacts()
		other[0], other[i] = other[i], other[0]
		if fact.SameList(l, other) != (i == 0) {
			t.Errorf("facts 0 and %d exchanged", i)
		}
	}
}

// P5.1, P5.2, P5.4: no function changes its arguments or writes to their spare room.
func TestArgumentsAreNotChanged(t *testing.T) {
	for _, f := range manyFacts() {
		g := roomy(f)
		fact.Valid(g)
		fact.Same(g, g)
		fact.SameList([]api.Fact{g, g}, []api.Fact{g, g})
		fact.Encode(g)
		fact.Redact(g)
		if !fact.Same(f, g) {
			t.Fatalf("%v has become %v", f, g)
		}
		want := roomy(f)
		if !slices.Equal(g.Topics[:9], want.Topics[:9]) || !block.SameList(g.Blocks[:30], want.Blocks[:30]) || !slices.Equal(g.Label.After[:70], want.Label.After[:70]) {
			t.Fatalf("the spare room of %v has changed", g)
		}
		for i := range g.Blocks {
			if !slices.Equal(g.Blocks[i].Label.After[:70], want.Blocks[i].Label.After[:70]) {
				t.Fatalf("the spare room of block %d of %v has changed", i, g)
			}
		}
	}
}
