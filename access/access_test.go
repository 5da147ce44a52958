package access_test

import (
	"math"
	"math/rand"
	"slices"
	"testing"

	"copydesk/access"
	"copydesk/api"
	"copydesk/fact"
)

func publish(story int, l api.Label) api.Fact {
	return api.Fact{N: 7, Time: 3, Kind: api.FPublish, Story: story, Label: l}
}

func approve(story, editor int) api.Fact {
	return api.Fact{Kind: api.FApprove, Story: story, Editor: editor}
}

func takedown(story int) api.Fact {
	return api.Fact{N: 8, Time: 4, Kind: api.FTakedown, Story: story}
}

func heading(id int, l api.Label) api.Block {
	return api.Block{ID: id, Kind: api.BHeading, Text: "Rain", Label: l}
}

func revise(story int, lang string, rev, base int, l api.Label, blocks ...api.Block) api.Fact {
	return api.Fact{N: 9, Time: 5, Kind: api.FRevise, Story: story, Lang: lang, Rev: rev, Base: base, Title: "Rain", Author: "ann", Topics: []string{"city"}, Blocks: blocks, Label: l}
}

func correct(story int, lang string, block int) api.Fact {
	return api.Fact{N: 10, Time: 6, Kind: api.FCorrect, Story: story, Lang: lang, Block: block, Sentence: 2, Text: "No."}
}

func checkOut(t *testing.T, l []api.Fact, class, now int, want ...int) {
	t.Helper()
	if out := access.Out(l, class, now); !slices.Equal(out, want) {
		t.Errorf("Out(%v, %d, %d) = %v, want %v", l, class, now, out, want)
	}
}

func checkVisible(t *testing.T, l []api.Fact, class, now int, want ...api.Fact) {
	t.Helper()
	if seen := access.Visible(l, class, now); !fact.SameList(seen, want) {
		t.Errorf("Visible(%v, %d, %d) = %v, want %v", l, class, now, seen, want)
	}
}

func checkNext(t *testing.T, l []api.Fact, class, now, want int) {
	t.Helper()
	if next := access.Next(l, class, now); next != want {
		t.Errorf("Next(%v, %d, %d) = %d, want %d", l, class, now, next, want)
	}
}

var open api.Label

// P6.1: the examples of the chapter.
func TestExamples(t *testing.T) {
	l := []api.Fact{
		publish(1, api.Label{Until: 10}), publish(2, api.Label{After: []int{1}}),
		revise(1, "en", 1, 0, open, heading(1, open), heading(2, api.Label{Approvals: 1})), revise(2, "en", 1, 0, open),
	}
	checkOut(t, l, 0, 9)
	checkOut(t, l, 0, 10, 1, 2)
	checkVisible(t, l, 0, 10, publish(1, open), publish(2, open), revise(1, "en", 1, 0, open, heading(1, open)), revise(2, "en", 1, 0, open))
	checkNext(t, l, 0, 0, 10)
	checkNext(t, l, 0, 10, -1)
	checkOut(t, []api.Fact{publish(1, api.Label{After: []int{2}}), publish(2, api.Label{After: []int{1}})}, 0, 100)
}

// P6.1: each condition of the label of a story.
func TestOutOfOneStory(t *testing.T) {
	l := []api.Fact{publish(64, api.Label{Until: 5, Approvals: 2, Denied: 2})}
	checkOut(t, l, 0, 5)
	l = append(l, approve(64, 5), approve(64, 5), approve(63, 4))
	checkOut(t, l, 0, 5)
	checkVisible(t, l, 0, 5)
	l = append(l, approve(64, 1))
	checkOut(t, l, 0, 4)
	checkOut(t, l, 0, 5, 64)
	checkOut(t, l, 1, 5)
	checkOut(t, l, 2, math.MaxInt, 64)
	checkOut(t, l, 3, math.MinInt)
	slices.Reverse(l)
	checkOut(t, l, 0, 5, 64)
	all := []api.Fact{publish(1, api.Label{Approvals: 5}), approve(1, 1), approve(1, 2), approve(1, 3), approve(1, 4)}
	checkOut(t, all, 0, 5)
	checkOut(t, append(all, approve(1, 5)), 0, 5, 1)
	checkOut(t, []api.Fact{revise(1, "en", 1, 0, open), approve(1, 1)}, 0, 5)
	checkOut(t, nil, 0, 5)
}

// P6.1: the last publication counts, wherever other facts are, even if it came with an earlier Time.
func TestOutOfSeveralPublications(t *testing.T) {
	early, late := publish(1, open), publish(1, api.Label{Until: 20})
	checkOut(t, []api.Fact{early, late}, 0, 10)
	checkOut(t, []api.Fact{early, late}, 0, 20, 1)
	checkOut(t, []api.Fact{late, early}, 0, 0, 1)
	checkVisible(t, []api.Fact{late, takedown(1), early}, 0, 0, publish(1, open), takedown(1), publish(1, open))
	early.Time, early.N = 0, 0
	late.Time, late.N = 100, 100
	checkOut(t, []api.Fact{late, early}, 0, 0, 1)
}

// P6.1, P6.2: stories that wait for others, in each order; not those that wait for themselves or for stories that are not out.
func TestOutOfStoriesThatWait(t *testing.T) {
	l := []api.Fact{publish(3, open), publish(40, api.Label{After: []int{3}}), publish(2, api.Label{After: []int{3, 40}}), publish(64, api.Label{After: []int{2}}), publish(1, api.Label{After: []int{2, 64}})}
	for range 50 {
		rand.New(rand.NewSource(1)).Shuffle(len(l), func(i, k int) { l[i], l[k] = l[k], l[i] })
		checkOut(t, l, 2, 0, 1, 2, 3, 40, 64)
	}
	checkOut(t, append(l, publish(2, api.Label{After: []int{3, 41}})), 2, 0, 3, 40)
	checkOut(t, append(l, publish(3, api.Label{Denied: 4})), 2, 0)
	checkOut(t, append(l, takedown(3)), 2, 0, 1, 2, 3, 40, 64)
	checkOut(t, []api.Fact{publish(1, api.Label{After: []int{1}})}, 0, 9)
	circle := []api.Fact{publish(1, api.Label{After: []int{2}}), publish(2, api.Label{After: []int{3}}), publish(3, api.Label{After: []int{1}}), publish(4, api.Label{After: []int{1}}), publish(5, open)}
	checkOut(t, circle, 0, 9, 5)
	checkOut(t, append(circle, publish(2, api.Label{After: []int{5}})), 0, 9, 1, 2, 3, 4, 5)
	var chain []api.Fact
	var all []int
	for id := 1; id <= 64; id++ {
		all = append(all, id)
		if id < 64 {
			chain = append(chain, publish(id, api.Label{After: []int{id + 1}}))
		}
	}
	checkOut(t, chain, 0, 9)
	checkOut(t, append(chain, publish(64, api.Label{Until: 9})), 0, 9, all...)
	checkNext(t, append(chain, publish(64, api.Label{Until: 9})), 0, 0, 9)
}

// P6.1: nothing is visible to a class that does not exist.
func TestOtherClasses(t *testing.T) {
	l := []api.Fact{{Kind: api.FTemplate, Name: "front"}, publish(1, open), revise(1, "en", 1, 0, open)}
	for _, class := range []int{math.MinInt, -64, -1, 4, 5, 32, 63, 64, 256, 1 << 32, math.MaxInt} {
		for _, now := range []int{math.MinInt, -1, 0, 5, math.MaxInt} {
			checkOut(t, l, class, now)
			checkVisible(t, l, class, now)
			checkNext(t, l, class, now, -1)
		}
	}
	for class := range 4 {
		checkOut(t, l, class, 0, 1)
		checkVisible(t, l, class, 0, l...)
		checkVisible(t, l, class, -1, l[0])
		checkNext(t, l, class, math.MinInt, 0)
	}
}

// P6.1: which kinds of facts are visible if their story is out, taken down, or neither.
func TestVisibleKinds(t *testing.T) {
	l := []api.Fact{
		revise(1, "en", 1, 0, open, heading(1, open)), approve(1, 1), correct(1, "en", 1), {N: 11, Time: 7, Kind: api.FRetract, Story: 1, Text: "Wrong."},
		{N: 12, Time: 8, Kind: api.FTemplate, Name: "front", Text: "a\nb"}, {Kind: api.FPartner, Partner: 1, Until: 9}, {Kind: api.FLease, Partner: 1, Until: 9}, {Kind: api.FGone, Story: 1},
	}
	embargo := publish(1, api.Label{Until: 10, After: []int{2}, Denied: 6})
	checkVisible(t, l, 0, 20, l[4])
	checkVisible(t, append(l, takedown(1)), 0, 20, l[4])
	l = append(l, publish(2, open), embargo)
	checkVisible(t, l, 0, 9, l[4], publish(2, open))
	checkVisible(t, l, 0, 10, l[0], l[2], l[3], l[4], publish(2, open), publish(1, open))
	checkVisible(t, l, 1, 10, l[4], publish(2, open))
	l = append(l, takedown(1))
	checkVisible(t, l, 0, 9, l[4], publish(2, open))
	checkVisible(t, l, 0, 10, l[4], publish(2, open), publish(1, open), takedown(1))
	// A take-down concerns all of the story, wherever it is in the log.
	checkVisible(t, append([]api.Fact{takedown(1)}, l[:10]...), 0, 10, takedown(1), l[4], publish(2, open), publish(1, open))
}

// P6.1: the conditions of the labels of revisions and of blocks, with the approvals and stories that count for them.
func TestVisibleOfRevisions(t *testing.T) {
	l := []api.Fact{
		publish(1, open),
		revise(1, "en", 1, 0, api.Label{Until: 5}, heading(3, open), heading(1, api.Label{Until: 8}), heading(2, api.Label{After: []int{2}})),
		revise(1, "fr", 1, 0, api.Label{After: []int{1}}, heading(1, api.Label{Denied: 1}), heading(2, api.Label{Approvals: 1})),
		publish(2, api.Label{Until: 9}), approve(2, 1),
	}
	french := revise(1, "fr", 1, 0, open)
	english := revise(1, "en", 1, 0, open, heading(3, open))
	checkVisible(t, l, 0, 4, publish(1, open), french)
	checkVisible(t, l, 0, 5, publish(1, open), english, french)
	english.Blocks = append(english.Blocks, heading(1, open))
	checkVisible(t, l, 0, 8, publish(1, open), english, french)
	english.Blocks = append(english.Blocks, heading(2, open))
	checkVisible(t, l, 0, 9, publish(1, open), english, french, publish(2, open))
	french.Blocks = []api.Block{heading(1, open)}
	checkVisible(t, l, 1, 9, publish(1, open), english, french, publish(2, open))
	french.Blocks = append(french.Blocks, heading(2, open))
	checkVisible(t, append(l, approve(1, 3)), 1, 9, publish(1, open), english, french, publish(2, open))
}

// P6.1: the Base of a revision is its nearest open ancestor.
func TestVisibleAncestors(t *testing.T) {
	hidden := api.Label{Until: 100}
	seen := func(l []api.Fact) int {
		v := access.Visible(append([]api.Fact{publish(1, open), publish(2, open)}, l...), 0, 9)
		return v[len(v)-1].Base
	}
	for _, c := range []struct {
		l    []api.Fact
		base int
	}{
		{[]api.Fact{revise(1, "en", 5, 0, open)}, 0},
		{[]api.Fact{revise(1, "en", 1, 0, open), revise(1, "en", 5, 1, open)}, 1},
		{[]api.Fact{revise(1, "en", 1, 0, hidden), revise(1, "en", 5, 1, open)}, 0},
		{[]api.Fact{revise(1, "en", 1, 0, open), revise(1, "en", 3, 1, hidden), revise(1, "en", 4, 3, hidden), revise(1, "en", 5, 4, open)}, 1},
		{[]api.Fact{revise(1, "en", 1, 0, open), revise(1, "en", 3, 1, open), revise(1, "en", 4, 3, hidden), revise(1, "en", 5, 4, open)}, 3},
		// There is no revision with this Rev, or not in this language or story.
		{[]api.Fact{revise(1, "en", 1, 0, open), revise(1, "en", 5, 2, open)}, 0},
		{[]api.Fact{revise(1, "fr", 2, 0, open), revise(2, "en", 2, 0, open), revise(1, "en", 5, 2, open)}, 0},
		{[]api.Fact{revise(1, "en", 1, 0, open), revise(1, "en", 4, 2, hidden), revise(1, "en", 5, 4, open)}, 0},
		// The last revision with this Rev counts, even if it comes after the one that is based on it.
		{[]api.Fact{revise(1, "en", 2, 0, open), revise(1, "en", 2, 0, hidden), revise(1, "en", 5, 2, open)}, 0},
		{[]api.Fact{revise(1, "en", 1, 0, open), revise(1, "en", 2, 0, open), revise(1, "en", 2, 1, hidden), revise(1, "en", 5, 2, open)}, 1},
		{[]api.Fact{revise(1, "en", 2, 0, hidden), revise(1, "en", 2, 0, open), revise(1, "en", 5, 2, open)}, 2},
		{[]api.Fact{revise(1, "en", 4, 3, hidden), revise(1, "en", 3, 0, open), revise(1, "en", 5, 4, open)}, 3},
		{[]api.Fact{revise(1, "en", 99, 98, hidden), revise(1, "en", 98, 0, open), revise(1, "en", 100, 99, open)}, 98},
	} {
		if b := seen(c.l); b != c.base {
			t.Errorf("the Base of the last one of %v is %d, want %d", c.l, b, c.base)
		}
	}
	after := []api.Fact{publish(1, open), revise(1, "en", 5, 2, open), revise(1, "en", 2, 0, open)}
	checkVisible(t, after, 0, 0, after...)
	after[2].Label = hidden
	checkVisible(t, after, 0, 0, after[0], revise(1, "en", 5, 0, open))
	var chain []api.Fact
	for rev := 1; rev <= 99; rev++ {
		chain = append(chain, revise(1, "en", rev, rev-1, hidden))
	}
	if b := seen(append(chain, revise(1, "en", 100, 99, open))); b != 0 {
		t.Errorf("the Base after 99 hidden ancestors is %d", b)
	}
	chain[0].Label = open
	if b := seen(append(chain, revise(1, "en", 100, 99, open))); b != 1 {
		t.Errorf("the Base after 98 hidden ancestors is %d", b)
	}
}

// P6.1: a correction is visible if the last block before it that it can concern is open.
func TestVisibleCorrections(t *testing.T) {
	hidden := api.Label{Until: 100}
	c := correct(1, "en", 7)
	for _, x := range []struct {
		l    []api.Fact
		want bool
	}{
		{[]api.Fact{c}, false},
		{[]api.Fact{revise(1, "en", 1, 0, open, heading(7, open)), c}, true},
		{[]api.Fact{c, revise(1, "en", 1, 0, open, heading(7, open))}, false},
		{[]api.Fact{revise(1, "en", 1, 0, open, heading(8, open)), c}, false},
		{[]api.Fact{revise(1, "fr", 1, 0, open, heading(7, open)), c}, false},
		{[]api.Fact{revise(2, "en", 1, 0, open, heading(7, open)), c}, false},
		{[]api.Fact{revise(1, "en", 1, 0, hidden, heading(7, open)), c}, false},
		{[]api.Fact{revise(1, "en", 1, 0, open, heading(7, hidden)), c}, false},
		// Revisions without the block do not matter.
		{[]api.Fact{revise(1, "en", 1, 0, open, heading(8, open), heading(7, open)), revise(1, "en", 2, 1, open), revise(1, "en", 3, 1, hidden, heading(8, open)), c}, true},
		// The last block before the correction counts.
		{[]api.Fact{revise(1, "en", 1, 0, open, heading(7, open)), revise(1, "en", 2, 1, open, heading(7, hidden)), c}, false},
		{[]api.Fact{revise(1, "en", 1, 0, open, heading(7, open)), revise(1, "en", 2, 1, hidden, heading(7, open)), c}, false},
		{[]api.Fact{revise(1, "en", 1, 0, hidden, heading(7, hidden)), revise(1, "en", 2, 1, open, heading(7, open)), c}, true},
		{[]api.Fact{revise(1, "en", 2, 0, open, heading(7, hidden)), revise(1, "en", 1, 0, open, heading(7, open)), c}, true},
		{[]api.Fact{revise(1, "en", 1, 0, open, heading(7, open)), c, revise(1, "en", 2, 1, hidden, heading(7, open)), revise(1, "en", 2, 1, open, heading(7, hidden))}, true},
		{[]api.Fact{revise(1, "en", 1, 0, open, heading(7, open)), revise(1, "fr", 2, 1, hidden, heading(7, open)), revise(2, "en", 2, 1, hidden, heading(7, open)), c}, true},
	} {
		l := append([]api.Fact{publish(1, open), publish(2, open)}, x.l...)
		seen := slices.ContainsFunc(access.Visible(l, 0, 9), func(f api.Fact) bool { return fact.Same(f, c) })
		if seen != x.want {
			t.Errorf("the correction is visible in %v: %v", l, seen)
		}
		// Once its story is taken down, or as long as it is not published, no correction is visible.
		for _, l := range [][]api.Fact{append(l, takedown(1)), x.l, append(l, publish(1, hidden))} {
			if slices.ContainsFunc(access.Visible(l, 0, 9), func(f api.Fact) bool { return f.Kind == api.FCorrect }) {
				t.Errorf("the correction is visible in %v", l)
			}
		}
	}
}

// P6.1, P6.5: the bounds of Next, with the label of a story, of a revision and of a block.
func TestNext(t *testing.T) {
	l := []api.Fact{publish(1, api.Label{Until: 10}), revise(1, "en", 1, 0, api.Label{Until: 20}, heading(1, api.Label{Until: 1000000000}), heading(2, api.Label{Until: 30}))}
	for _, x := range [][2]int{
		{math.MinInt, 10}, {-1, 10}, {0, 10}, {9, 10}, {10, 20}, {19, 20}, {20, 30}, {29, 30}, {30, 1000000000}, {999999999, 1000000000},
		{1000000000, -1}, {1000000001, -1}, {1 << 32, -1}, {math.MaxInt - 1, -1}, {math.MaxInt, -1},
	} {
		checkNext(t, l, 3, x[0], x[1])
	}
	checkNext(t, nil, 0, 0, -1)
	checkNext(t, l[1:], 0, 0, -1)
	checkNext(t, append(l, publish(1, open)), 0, -5, 0)
	checkNext(t, append(l, takedown(1)), 0, 0, 10)
	checkNext(t, append(l, takedown(1)), 0, 10, -1)
	checkNext(t, append(l, publish(1, api.Label{Denied: 15})), 0, 0, -1)
	// At a time at which a label ends, nothing need change.
	checkNext(t, []api.Fact{publish(1, api.Label{Until: 10}), publish(2, api.Label{Until: 5, After: []int{1}}), revise(1, "en", 1, 0, api.Label{Until: 7})}, 0, 0, 10)
	// The end of a lease is no such time.
	checkNext(t, []api.Fact{publish(1, open), {Kind: api.FPartner, Partner: 1, Until: 9}, {Kind: api.FLease, Partner: 1, Until: 8}}, 0, 0, -1)
	// Only the Base of a revision changes.
	bases := []api.Fact{publish(1, open), revise(1, "en", 1, 0, api.Label{Until: 5}), revise(1, "en", 2, 1, open)}
	checkNext(t, bases, 0, 0, 5)
	checkVisible(t, bases, 0, 4, publish(1, open), revise(1, "en", 2, 0, open))
	checkVisible(t, bases, 0, 5, publish(1, open), revise(1, "en", 1, 0, open), revise(1, "en", 2, 1, open))
}

// P6.1: facts that are not valid are ignored, whatever they would do.
func TestInvalidFactsAreIgnored(t *testing.T) {
	base := []api.Fact{publish(1, api.Label{Approvals: 1}), revise(1, "en", 1, 0, open, heading(1, open)), approve(1, 1)}
	want := []api.Fact{publish(1, open), base[1]}
	checkVisible(t, base, 0, 0, want...)
	long := publish(1, api.Label{Denied: 15})
	long.Text = "x"
	late := publish(1, api.Label{Denied: 1})
	late.Time = api.MaxTime + 1
	down := takedown(1)
	down.N = 501
	double := revise(1, "en", 2, 1, open, heading(2, open), heading(2, open))
	bad := []api.Fact{
		{}, {Kind: 11, Story: 1}, publish(0, open), publish(65, open), publish(-1, open), publish(1<<32+1, open), publish(1, api.Label{Until: -1}), publish(1, api.Label{After: []int{2, 2}}), long, late,
		approve(0, 1), approve(65, 1), approve(1, 0), approve(1, 6), approve(-1, -1), takedown(0), takedown(65), down, {Kind: api.FTakedown, Story: 1, Lang: "en"},
		double, revise(1, "EN", 1, 0, open), revise(1, "en", 1, 1, open, heading(1, open)), revise(1, "en", 0, 0, open), revise(1, "en", 101, 0, open), revise(1, "en", 2, 0, open, api.Block{ID: 1}),
		revise(65, "en", 1, 0, open), revise(1, "en", 1, 0, api.Label{Denied: 16}, heading(1, open)), revise(1, "en", 1, 0, open, heading(1, api.Label{Until: -1})),
		correct(1, "en", 0), correct(1, "", 1), correct(0, "en", 1), {Kind: api.FRetract, Story: 1}, {Kind: api.FTemplate}, {Kind: api.FTemplate, Name: "front", Story: 1},
	}
	for _, f := range bad {
		if fact.Valid(f) {
			t.Fatalf("%v is valid", f)
		}
		for i := range len(base) + 1 {
			l := slices.Insert(slices.Clone(base), i, f)
			checkOut(t, l, 0, 0, 1)
			checkVisible(t, l, 0, 0, want...)
		}
	}
	checkOut(t, bad, 0, 0)
	checkVisible(t, bad, 0, 0)
	checkNext(t, bad, 0, -1, -1)
	checkOut(t, append(bad, publish(1, api.Label{Approvals: 1})), 0, 0)
}
