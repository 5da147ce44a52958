package query_test

import (
	"slices"
	"testing"

	"copydesk/api"
	"copydesk/query"
)

// story returns a listed story.
func story(id, published int, author string, topics ...string) api.Story {
	return api.Story{ID: id, Published: published, Author: author, Topics: topics, Editions: []api.Edition{{Lang: "en"}}}
}

// retracted returns x as a retracted story.
func retracted(x api.Story) api.Story {
	x.Retracted = true
	return x
}

// takenDown returns x as a story that was taken down, in a state in which something is left of it.
func takenDown(x api.Story) api.Story {
	x.Taken = true
	return x
}

// withoutEditions returns x without its editions.
func withoutEditions(x api.Story) api.Story {
	x.Editions = nil
	return x
}

func stateOf(stories ...api.Story) api.State {
	return api.State{Stories: stories}
}

// example is the state of the chapter's examples.
func example() api.State {
	return stateOf(story(1, 4, "ann", "a", "b"), story(2, 9, "bob", "a"), story(3, 6, "ann", "a", "b"), retracted(story(4, 7, "cid", "b")))
}

func checkIDs(t *testing.T, what string, got []int, want ...int) {
	t.Helper()
	if !slices.Equal(got, want) {
		t.Errorf("%s: %v, want %v", what, got, want)
	}
}

func checkNames(t *testing.T, what string, got []string, want ...string) {
	t.Helper()
	if !slices.Equal(got, want) {
		t.Errorf("%s: %q, want %q", what, got, want)
	}
}

func checkPage(t *testing.T, s api.State, topic string, page, pages int, want ...int) {
	t.Helper()
	got, n := query.Page(s, topic, page)
	if !slices.Equal(got, want) || n != pages {
		t.Errorf("page %d of %q: %v of %d, want %v of %d", page, topic, got, n, want, pages)
	}
}

// P8.1: the examples of the chapter.
func TestExamples(t *testing.T) {
	s := example()
	checkIDs(t, "latest of a", query.Latest(s, "a", 2), 2, 3)
	checkIDs(t, "latest", query.Latest(s, "", 9), 2, 3, 1)
	checkPage(t, s, "a", 1, 1, 1, 3, 2)
	checkPage(t, s, "a", 2, 1)
	checkNames(t, "topics", query.Topics(s), "a", "b")
	checkIDs(t, "related to 1", query.Related(s, 1, 9), 3, 2)
	checkIDs(t, "related to 4", query.Related(s, 4, 9))
	if n := query.Count(s, "b"); n != 2 {
		t.Errorf("count of b: %d", n)
	}
}

// P8.1: what an empty state has.
func TestEmptyState(t *testing.T) {
	for _, s := range []api.State{{}, {Stories: []api.Story{}}, {Templates: []api.Template{{Name: "front"}}}} {
		checkIDs(t, "latest", query.Latest(s, "", 9))
		checkPage(t, s, "", 1, 0)
		checkPage(t, s, "", 0, 0)
		checkNames(t, "topics", query.Topics(s))
		checkNames(t, "authors", query.Authors(s))
		checkIDs(t, "by", query.By(s, ""))
		checkIDs(t, "related", query.Related(s, 0, 9))
		if n := query.Count(s, ""); n != 0 {
			t.Errorf("count: %d", n)
		}
	}
}

// P8.1: stories that are retracted, taken down or without editions are not listed.
func TestListed(t *testing.T) {
	for _, hide := range []func(x api.Story) api.Story{retracted, takenDown, withoutEditions} {
		s := stateOf(story(1, 1, "ann", "a"), hide(story(2, 2, "bob", "a", "b")), story(3, 3, "ann", "a"))
		checkIDs(t, "latest", query.Latest(s, "a", 9), 3, 1)
		checkPage(t, s, "", 1, 1, 1, 3)
		checkNames(t, "topics", query.Topics(s), "a")
		checkNames(t, "authors", query.Authors(s), "ann")
		checkIDs(t, "by", query.By(s, "bob"))
		checkIDs(t, "related to 1", query.Related(s, 1, 9), 3)
		checkIDs(t, "related to 2", query.Related(s, 2, 9))
		if n := query.Count(s, "a"); n != 2 {
			t.Errorf("count: %d", n)
		}
	}
}

// P8.1: every story has the empty topic, whether it occurs in its Topics or not; only if it occurs, it is among Topics, and common to stories.
func TestEmptyTopic(t *testing.T) {
	s := stateOf(story(1, 1, "ann"), story(2, 2, "ann", "a"), story(3, 3, "", "", "a"), story(4, 4, "bob", ""))
	checkIDs(t, "latest", query.Latest(s, "", 9), 4, 3, 2, 1)
	checkPage(t, s, "", 1, 1, 1, 2, 3, 4)
	if n := query.Count(s, ""); n != 4 {
		t.Errorf("count: %d", n)
	}
	checkNames(t, "topics", query.Topics(s), "", "a")
	checkNames(t, "authors", query.Authors(s), "", "ann", "bob")
	checkIDs(t, "by", query.By(s, ""), 3)
	checkIDs(t, "related to 1", query.Related(s, 1, 9))
	checkIDs(t, "related to 2", query.Related(s, 2, 9), 3)
	checkIDs(t, "related to 3", query.Related(s, 3, 9), 4, 2)
	checkIDs(t, "related to 4", query.Related(s, 4, 9), 3)
}

// P8.1: stories are ordered by Published and then by ID, whatever the order of the state.
func TestOrder(t *testing.T) {
	s := stateOf(story(9, 5, "x"), story(3, 5, "y"), story(7, 4, "z"), story(1, maxInt, "x"), story(8, minInt, "x"), story(-2, 5, "x"))
	checkPage(t, s, "", 1, 2, 8, 7, -2, 3, 9)
	checkIDs(t, "latest", query.Latest(s, "", 9), 1, 9, 3, -2, 7, 8)
	checkIDs(t, "by", query.By(s, "x"), 1, 9, -2, 8)
}

// P8.1: stories with the same ID are stories of their own, but none of them is related to another, and Related looks at the topics of the first one.
func TestTwins(t *testing.T) {
	s := stateOf(story(4, 5, "ann", "a", "b"), story(2, 5, "ann", "a"), story(4, 5, "ann"), story(4, 1, "bob", "a"))
	checkPage(t, s, "", 1, 1, 4, 2, 4, 4)
	checkIDs(t, "latest", query.Latest(s, "", 9), 4, 4, 2, 4)
	checkIDs(t, "latest of a", query.Latest(s, "a", 9), 4, 2, 4)
	checkIDs(t, "by ann", query.By(s, "ann"), 4, 4, 2)
	checkIDs(t, "related to 2", query.Related(s, 2, 9), 4, 4)
	checkIDs(t, "related to 4", query.Related(s, 4, 9), 2)
	s.Stories[0], s.Stories[2] = retracted(s.Stories[0]), retracted(s.Stories[2])
	checkIDs(t, "related to 4, whose first story is not listed", query.Related(s, 4, 9))
	checkIDs(t, "related to 2, after that", query.Related(s, 2, 9), 4)
}

// P8.1: how many stories there are at most, and at least.
func TestNumbers(t *testing.T) {
	s := stateOf(story(1, 1, "x", "a"), story(2, 2, "x", "a"), story(3, 3, "x", "a"))
	for n, want := range map[int][]int{minInt: nil, -1: nil, 0: nil, 1: {3}, 2: {3, 2}, 3: {3, 2, 1}, 4: {3, 2, 1}, maxInt: {3, 2, 1}} {
		checkIDs(t, "latest", query.Latest(s, "a", n), want...)
	}
	for n, want := range map[int][]int{minInt: nil, -1: nil, 0: nil, 1: {3}, 2: {3, 2}, 3: {3, 2}, maxInt: {3, 2}} {
		checkIDs(t, "related", query.Related(s, 1, n), want...)
	}
}

// P8.1: pages of a topic whose last page is full, and is not.
func TestPages(t *testing.T) {
	var s api.State
	for i := 1; i <= 11; i++ {
		s.Stories = append(s.Stories, story(i, 100-i, "ann", "a"))
	}
	s.Stories[4].Topics = []string{"b", "a", "b"}
	for page, want := range map[int][]int{minInt: nil, -1: nil, 0: nil, 1: {11, 10, 9, 8, 7}, 2: {6, 5, 4, 3, 2}, 3: {1}, 4: nil, maxInt: nil} {
		checkPage(t, s, "a", page, 3, want...)
	}
	s.Stories = s.Stories[:10]
	for page, want := range map[int][]int{1: {10, 9, 8, 7, 6}, 2: {5, 4, 3, 2, 1}, 3: nil} {
		checkPage(t, s, "a", page, 2, want...)
	}
	checkPage(t, s, "b", 1, 1, 5)
	checkPage(t, s, "c", 1, 0)
}

// P8.1: names are compared byte by byte, and a part of a name is another name.
func TestNames(t *testing.T) {
	s := stateOf(story(1, 1, "b", "rain-2", "rain"), story(2, 2, "a", "rain"), story(3, 3, "B", "\xff", "Rain"), story(4, 4, "a", "snow", "rain-2"))
	checkNames(t, "topics", query.Topics(s), "Rain", "rain", "rain-2", "snow", "\xff")
	checkNames(t, "authors", query.Authors(s), "B", "a", "b")
	checkIDs(t, "latest of rain", query.Latest(s, "rain", 9), 2, 1)
	checkIDs(t, "latest of rai", query.Latest(s, "rai", 9))
	checkIDs(t, "by a", query.By(s, "a"), 4, 2)
	checkIDs(t, "by b", query.By(s, "b"), 1)
	checkIDs(t, "related to 2", query.Related(s, 2, 9), 1)
}

// P8.1: a topic that occurs twice in a story is one common topic, whichever story it is.
func TestCommonTopics(t *testing.T) {
	s := stateOf(story(1, 9, "x", "a", "a", "b"), story(2, 1, "x", "b", "a"), story(3, 2, "x", "a", "a", "a"), story(4, 3, "x", "b", "b", "c"))
	checkIDs(t, "related to 1", query.Related(s, 1, 9), 2, 4, 3)
	checkIDs(t, "related to 2", query.Related(s, 2, 9), 1, 4, 3)
	checkIDs(t, "related to 3", query.Related(s, 3, 9), 1, 2)
	checkIDs(t, "related to 5", query.Related(s, 5, 9))
}

// P8.1: all functions do what the chapter says, for states that need not be valid.
func TestReference(t *testing.T) {
	m := newMaker(1)
	for range 6000 {
		s := m.state()
		topic, author, id, n := oneOf(m, topicPool), oneOf(m, authorPool), oneOf(m, idPool), oneOf(m, numberPool)
		checkIDs(t, "latest", query.Latest(s, topic, n), latestOf(s, topic, n)...)
		checkIDs(t, "by", query.By(s, author), byOf(s, author)...)
		checkIDs(t, "related", query.Related(s, id, n), relatedOf(s, id, n)...)
		checkNames(t, "topics", query.Topics(s), topicsOf(s)...)
		checkNames(t, "authors", query.Authors(s), authorsOf(s)...)
		pages := pagesOf(s, topic)
		var want []int
		if n >= 1 && n <= len(pages) {
			want = pages[n-1]
		}
		checkPage(t, s, topic, n, len(pages), want...)
		if count := query.Count(s, topic); count != len(latestOf(s, topic, maxInt)) {
			t.Errorf("count: %d", count)
		}
		if t.Failed() {
			t.Fatalf("topic %q, author %q, ID %d, number %d, state %+v", topic, author, id, n, s)
		}
	}
}

// P8.1: no function takes time in proportion to the square of what it is given.
func TestMuch(t *testing.T) {
	const much = 100000
	var s api.State
	topics := make([]string, much)
	for i := range topics {
		topics[i] = string([]byte{byte(i), byte(i >> 8), byte(i >> 16)})
	}
	s.Stories = append(s.Stories, story(0, 0, "ann", topics...), story(-1, 0, "ann", topics...))
	for i := 1; i <= much; i++ {
		s.Stories = append(s.Stories, story(i, -i, "ann", topics[much-i]))
	}
	if l := query.Related(s, 0, maxInt); len(l) != much+1 || l[0] != -1 || l[1] != 1 || l[much] != much {
		t.Errorf("%d related stories", len(l))
	}
	if l, n := query.Page(s, "", 1); n != much/5+1 || !slices.Equal(l, []int{much, much - 1, much - 2, much - 3, much - 4}) {
		t.Errorf("page %v of %d", l, n)
	}
	if l := query.Topics(s); len(l) != much {
		t.Errorf("%d topics", len(l))
	}
}
