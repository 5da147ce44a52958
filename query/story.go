package query

import (
	"cmp"
	"iter"
	"slices"

	"copydesk/api"
)

// entry is a listed story of a state.
type entry struct {
	api.Story
}

// relative is a listed story, with the number of topics that it has in common with another one.
type relative struct {
	entry
	common int
}

// listed goes through the listed stories of s for which all conditions hold, in the order of the state.
func listed(s api.State, conditions ...func(story api.Story) bool) iter.Seq[entry] {
	return func(yield func(e entry) bool) {
	stories:
		for _, story := range s.Stories {
			if !isListed(story) {
				continue
			}
			for _, holds := range conditions {
				if !holds(story) {
					continue stories
				}
			}
			if !yield(entry{story}) {
				return
			}
		}
	}
}

// isListed reports whether story is listed.
func isListed(story api.Story) bool {
	return !story.Retracted && !story.Taken && len(story.Editions) > 0
}

// having returns the condition that a story has the topic.
func having(topic string) func(story api.Story) bool {
	return func(story api.Story) bool {
		return topic == "" || slices.Contains(story.Topics, topic)
	}
}

// relatives goes through the listed stories of s with other IDs than story that have topics in common with it.
func relatives(s api.State, story api.Story) iter.Seq[relative] {
	other := func(x api.Story) bool { return x.ID != story.ID }
	topics := ascending(story.Topics)
	return func(yield func(r relative) bool) {
		for e := range listed(s, other) {
			r := relative{e, common(ascending(e.Topics), topics)}
			if r.common > 0 && !yield(r) {
				return
			}
		}
	}
}

// common returns how many elements of a are in b. Both lists ascend, so that no element is counted twice and each of them is found by halving.
func common(a []string, b []string) int {
	n := 0
	for _, topic := range a {
		if _, found := slices.BinarySearch(b, topic); found {
			n++
		}
	}
	return n
}

// ascending returns the elements of l in ascending order, each of them once, in new memory.
func ascending(l []string) []string {
	all := slices.Clone(l)
	slices.Sort(all)
	return slices.Compact(all)
}

// id returns the ID of the story.
func (e entry) id() int {
	return e.ID
}

// compare returns a negative number if e is older than other, and a positive one if it is newer. It leaves the order of stories with the same Published and the same ID open, since no list of IDs shows it.
func (e entry) compare(other entry) int {
	return cmp.Or(cmp.Compare(e.Published, other.Published), cmp.Compare(e.ID, other.ID))
}

// oldestFirst is the order of the pages of a topic.
func oldestFirst(a entry, b entry) int {
	return a.compare(b)
}

// newestFirst is the reverse of oldestFirst.
func newestFirst(a entry, b entry) int {
	return b.compare(a)
}

// closestFirst is the order of related stories.
func closestFirst(a relative, b relative) int {
	return cmp.Or(cmp.Compare(b.common, a.common), b.compare(a.entry))
}

// ids returns the IDs of the stories in the given order.
func ids[E interface{ id() int }](stories iter.Seq[E], order func(a E, b E) int) []int {
	var l []int
	for _, e := range slices.SortedFunc(stories, order) {
		l = append(l, e.id())
	}
	return l
}

// first returns the first n elements of l: all of them if there are fewer, and none if n is negative.
func first(n int, l []int) []int {
	return l[:min(max(n, 0), len(l))]
}
