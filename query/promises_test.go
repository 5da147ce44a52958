package query_test

import (
	"slices"
	"testing"

	"copydesk/api"
	"copydesk/query"
)

// allPages returns the pages of the topic, one after the other.
func allPages(s api.State, topic string) [][]int {
	_, n := query.Page(s, topic, 1)
	var pages [][]int
	for i := range n {
		l, _ := query.Page(s, topic, i+1)
		pages = append(pages, l)
	}
	return pages
}

// P8.2: the pages are all stories of the topic, oldest first, and full but for the last one.
func TestPagesAreWhole(t *testing.T) {
	m := newMaker(2)
	for range 3000 {
		s, topic := m.state(), oneOf(m, topicPool)
		pages := allPages(s, topic)
		want := oldestOf(listedOf(s, func(x api.Story) bool { return hasTopic(x, topic) }))
		if !slices.Equal(slices.Concat(pages...), want) {
			t.Fatalf("pages %v of %q in %+v, want %v", pages, topic, s, want)
		}
		for i, l := range pages {
			if i < len(pages)-1 && len(l) != api.PageSize || len(l) == 0 || len(l) > api.PageSize {
				t.Fatalf("pages %v of %q in %+v", pages, topic, s)
			}
		}
	}
}

// P8.2: Latest is the reverse of the pages, or its beginning.
func TestLatestIsReverse(t *testing.T) {
	m := newMaker(3)
	for range 3000 {
		s, topic := m.state(), oneOf(m, topicPool)
		want := slices.Concat(allPages(s, topic)...)
		slices.Reverse(want)
		for n := range len(want) + 2 {
			checkIDs(t, "latest", query.Latest(s, topic, n), want[:min(n, len(want))]...)
		}
		if n := query.Count(s, topic); n != len(want) || t.Failed() {
			t.Fatalf("count %d of %q in %+v", n, topic, s)
		}
	}
}

// P8.3: a story that is published later leaves full pages as they were.
func TestLaterStory(t *testing.T) {
	m := newMaker(4)
	for range 3000 {
		s, topic := m.state(), oneOf(m, topicPool)
		late := story(oneOf(m, idPool), 0, oneOf(m, authorPool), oneOf(m, topicPool), oneOf(m, topicPool))
		for i := range s.Stories {
			s.Stories[i].Published = min(s.Stories[i].Published, maxInt-1)
			late.Published = max(late.Published, s.Stories[i].Published+1)
		}
		before := allPages(s, topic)
		after := allPages(api.State{Stories: slices.Insert(slices.Clone(s.Stories), m.Intn(len(s.Stories)+1), late)}, topic)
		for i, l := range before {
			if len(l) == api.PageSize && !slices.Equal(l, after[i]) {
				t.Fatalf("%+v changes the pages %v of %q in %+v to %v", late, before, topic, s, after)
			}
		}
	}
}

// P8.4: stories that are not listed make no difference, if IDs are unique.
func TestStoriesThatAreNotListed(t *testing.T) {
	m := newMaker(5)
	for range 3000 {
		s, topic, author, n := m.stateOfUnique(), oneOf(m, topicPool), oneOf(m, authorPool), oneOf(m, numberPool)
		less := api.State{Stories: listedOf(s, func(api.Story) bool { return true })}
		checkIDs(t, "latest", query.Latest(s, topic, n), query.Latest(less, topic, n)...)
		checkIDs(t, "by", query.By(s, author), query.By(less, author)...)
		checkNames(t, "topics", query.Topics(s), query.Topics(less)...)
		checkNames(t, "authors", query.Authors(s), query.Authors(less)...)
		page, pages := query.Page(less, topic, n)
		checkPage(t, s, topic, n, pages, page...)
		for id := -3; id < 30; id++ {
			checkIDs(t, "related", query.Related(s, id, n), query.Related(less, id, n)...)
		}
		if query.Count(s, topic) != query.Count(less, topic) || t.Failed() {
			t.Fatalf("topic %q, author %q, number %d, state %+v", topic, author, n, s)
		}
	}
}

// P8.5: Topics are the topics of listed stories, and no others.
func TestTopicsOfStories(t *testing.T) {
	m := newMaker(6)
	for range 3000 {
		s := m.state()
		topics := query.Topics(s)
		for _, topic := range topicPool {
			occurs := len(listedOf(s, func(x api.Story) bool { return slices.Contains(x.Topics, topic) })) > 0
			if slices.Contains(topics, topic) != occurs {
				t.Fatalf("topics %q of %+v: %q", topics, s, topic)
			}
		}
	}
}

// P8.5: each listed story is that of one author.
func TestStoriesOfAuthors(t *testing.T) {
	m := newMaker(7)
	for range 3000 {
		s := m.state()
		var all []int
		for _, author := range query.Authors(s) {
			all = append(all, query.By(s, author)...)
		}
		listed := query.Latest(s, "", maxInt)
		slices.Sort(all)
		slices.Sort(listed)
		if !slices.Equal(all, listed) {
			t.Fatalf("stories %v of all authors, and %v listed in %+v", all, listed, s)
		}
	}
}

// P8.5: a story is related to those that are related to it, if IDs are unique.
func TestRelatedBothWays(t *testing.T) {
	m := newMaker(8)
	for range 1000 {
		s := m.stateOfUnique()
		for _, x := range s.Stories {
			for _, y := range s.Stories {
				there := slices.Contains(query.Related(s, x.ID, maxInt), y.ID)
				back := slices.Contains(query.Related(s, y.ID, maxInt), x.ID)
				if there != back {
					t.Fatalf("stories %d and %d of %+v", x.ID, y.ID, s)
				}
			}
		}
	}
}
