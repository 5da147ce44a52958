package query_test

import (
	"math/rand"
	"slices"

	"copydesk/api"
)

// The functions of this file are a transcription of the chapter, with which the tests compare. They never sort: they look for one element after the other.

// isListed reports whether x is listed.
func isListed(x api.Story) bool {
	return !x.Retracted && !x.Taken && len(x.Editions) > 0
}

// hasTopic reports whether x has the topic.
func hasTopic(x api.Story, topic string) bool {
	if topic == "" {
		return true
	}
	for _, other := range x.Topics {
		if other == topic {
			return true
		}
	}
	return false
}

// listedOf returns the listed stories of s for which is holds, in the order of the state.
func listedOf(s api.State, is func(x api.Story) bool) []api.Story {
	var l []api.Story
	for _, x := range s.Stories {
		if isListed(x) && is(x) {
			l = append(l, x)
		}
	}
	return l
}

// oldestOf returns the IDs of the stories of l, oldest first.
func oldestOf(l []api.Story) []int {
	var found []int
	done := make([]bool, len(l))
	for range l {
		oldest := -1
		for i, x := range l {
			if done[i] {
				continue
			}
			if oldest < 0 || x.Published < l[oldest].Published || x.Published == l[oldest].Published && x.ID < l[oldest].ID {
				oldest = i
			}
		}
		done[oldest] = true
		found = append(found, l[oldest].ID)
	}
	return found
}

// newestOf returns the IDs of the stories of l, newest first.
func newestOf(l []api.Story) []int {
	found := oldestOf(l)
	slices.Reverse(found)
	return found
}

// firstOf returns the first n elements of l.
func firstOf(n int, l []int) []int {
	if n < 0 {
		return nil
	}
	if n > len(l) {
		return l
	}
	return l[:n]
}

// latestOf is Latest.
func latestOf(s api.State, topic string, n int) []int {
	return firstOf(n, newestOf(listedOf(s, func(x api.Story) bool { return hasTopic(x, topic) })))
}

// pagesOf returns all pages that Page may return.
func pagesOf(s api.State, topic string) [][]int {
	var pages [][]int
	for i, id := range oldestOf(listedOf(s, func(x api.Story) bool { return hasTopic(x, topic) })) {
		if i%5 == 0 {
			pages = append(pages, nil)
		}
		pages[i/5] = append(pages[i/5], id)
	}
	return pages
}

// smallestOf returns the different elements of l, the smallest first.
func smallestOf(l []string) []string {
	var found []string
	for {
		next := -1
		for i, v := range l {
			if (len(found) == 0 || v > found[len(found)-1]) && (next < 0 || v < l[next]) {
				next = i
			}
		}
		if next < 0 {
			return found
		}
		found = append(found, l[next])
	}
}

// topicsOf is Topics.
func topicsOf(s api.State) []string {
	var l []string
	for _, x := range listedOf(s, func(api.Story) bool { return true }) {
		l = append(l, x.Topics...)
	}
	return smallestOf(l)
}

// authorsOf is Authors.
func authorsOf(s api.State) []string {
	var l []string
	for _, x := range listedOf(s, func(api.Story) bool { return true }) {
		l = append(l, x.Author)
	}
	return smallestOf(l)
}

// byOf is By.
func byOf(s api.State, author string) []int {
	return newestOf(listedOf(s, func(x api.Story) bool { return x.Author == author }))
}

// commonOf returns the number of different elements of the Topics of x that those of y contain.
func commonOf(x, y api.Story) int {
	n := 0
	for i, topic := range x.Topics {
		if !slices.Contains(x.Topics[:i], topic) && slices.Contains(y.Topics, topic) {
			n++
		}
	}
	return n
}

// relatedOf is Related.
func relatedOf(s api.State, id, n int) []int {
	for _, x := range s.Stories {
		if x.ID != id {
			continue
		}
		if !isListed(x) {
			return nil
		}
		var l []int
		for common := len(x.Topics); common > 0; common-- {
			l = append(l, newestOf(listedOf(s, func(y api.Story) bool { return y.ID != id && commonOf(x, y) == common }))...)
		}
		return firstOf(n, l)
	}
	return nil
}

// Pools of values for the tests: few, so that stories often have the same ones.
var (
	idPool     = []int{1, 2, 3, 64, 0, -5, 65, minInt, maxInt}
	timePool   = []int{4, 9, 6, 0, -1, minInt, maxInt}
	topicPool  = []string{"a", "b", "c", "", "Z", "a-1", "\xff"}
	authorPool = []string{"ann", "bob", "", "Z", "an"}
	numberPool = []int{0, 1, 2, 3, 5, 6, 99, -1, maxInt, minInt}
)

const (
	minInt = -1 << 63
	maxInt = 1<<63 - 1
)

// maker makes random states.
type maker struct{ *rand.Rand }

// newMaker returns a maker that always makes the same states.
func newMaker(seed int64) maker { return maker{rand.New(rand.NewSource(seed))} }

// oneOf returns one of the values, most often one of the first.
func oneOf[T any](m maker, values []T) T {
	return values[m.Intn(1+m.Intn(len(values)))]
}

// story returns a story with the ID, whose fields need not be valid.
func (m maker) story(id int) api.Story {
	x := api.Story{ID: id, Published: oneOf(m, timePool), Author: oneOf(m, authorPool), Retracted: m.Intn(8) == 0, Taken: m.Intn(8) == 0}
	for range m.Intn(5) {
		x.Topics = append(x.Topics, oneOf(m, topicPool))
	}
	for range m.Intn(8) {
		x.Editions = append(x.Editions, api.Edition{Lang: "en", Changed: m.Intn(9)})
	}
	return x
}

// state returns a state that need not be valid: IDs can occur twice and in any order.
func (m maker) state() api.State {
	s := api.State{Templates: []api.Template{{Name: "front"}}}
	for range m.Intn(25) {
		s.Stories = append(s.Stories, m.story(oneOf(m, idPool)))
	}
	return s
}

// stateOfUnique returns a state in which no two stories have the same ID.
func (m maker) stateOfUnique() api.State {
	var s api.State
	for _, i := range m.Perm(30)[:m.Intn(25)] {
		s.Stories = append(s.Stories, m.story(i-2))
	}
	return s
}
