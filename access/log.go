package access

import (
	"iter"
	"slices"

	"copydesk/api"
	"copydesk/fact"
)

// storyIDs is the length of an array with an element for each ID of a story.
const storyIDs = api.MaxStories + 1

// log consists of the valid facts of a list, and of what they say about each story.
type log struct {
	facts     []api.Fact
	published [storyIDs]bool
	labels    [storyIDs]api.Label
	approvals [storyIDs]int
	taken     [storyIDs]bool
}

// readLog returns the log that the valid facts of l make.
func readLog(l []api.Fact) *log {
	x := &log{}
	var approved [storyIDs][api.MaxEditors + 1]bool
	for f := range valid(l) {
		x.facts = append(x.facts, f)
		switch f.Kind {
		case api.FPublish:
			x.published[f.Story] = true
			x.labels[f.Story] = f.Label
		case api.FTakedown:
			x.taken[f.Story] = true
		case api.FApprove:
			if !approved[f.Story][f.Editor] {
				approved[f.Story][f.Editor] = true
				x.approvals[f.Story]++
			}
		}
	}
	return x
}

// valid goes through the valid facts of l.
func valid(l []api.Fact) iter.Seq[api.Fact] {
	return func(yield func(f api.Fact) bool) {
		for _, f := range l {
			if fact.Valid(f) && !yield(f) {
				return
			}
		}
	}
}

// timesAfter returns, in ascending order, the times after now until which a label holds something back. What is visible changes at no other time.
func (x *log) timesAfter(now int) []int {
	var times []int
	add := func(l api.Label) {
		if l.Until > now {
			times = append(times, l.Until)
		}
	}
	for _, f := range x.facts {
		add(f.Label)
		for _, b := range f.Blocks {
			add(b.Label)
		}
	}
	slices.Sort(times)
	return slices.Compact(times)
}
