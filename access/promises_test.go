package access_test

import (
	"math"
	"slices"
	"testing"

	"copydesk/access"
	"copydesk/api"
	"copydesk/fact"
	"copydesk/label"
)

// P6.1: all three functions return what the chapter defines, for logs with valid and invalid facts.
func TestTheDefinitions(t *testing.T) {
	m := newMaker(1)
	kinds, changes := map[int]int{}, 0
	for range 4000 {
		l := m.spoiledLog(25)
		class, now := m.classAndTime()
		checkOut(t, l, class, now, outOf(validOnly(l), class, now)...)
		want := visibleOf(l, class, now)
		checkVisible(t, l, class, now, want...)
		for _, f := range want {
			kinds[f.Kind]++
		}
		next := nextOf(l, class, now)
		checkNext(t, l, class, now, next)
		if next >= 0 {
			changes++
		}
		if t.Failed() {
			t.FailNow()
		}
	}
	if len(kinds) != 6 || kinds[api.FCorrect] < 200 || kinds[api.FTakedown] < 200 || changes < 1000 {
		t.Errorf("too little happens in the logs: %v, %d changes", kinds, changes)
	}
}

// P6.1: neither the Time nor the N of a fact has an effect on anything but itself.
func TestTimeAndNumberPlayNoPart(t *testing.T) {
	m := newMaker(2)
	for range 1000 {
		l := m.log(15)
		class, now := m.classAndTime()
		plain, other := slices.Clone(l), slices.Clone(l)
		for i := range l {
			plain[i].N, plain[i].Time = 0, 0
			other[i].N, other[i].Time = 500-i, m.Intn(api.MaxTime+1)
		}
		seen := access.Visible(other, class, now)
		for i := range seen {
			seen[i].N, seen[i].Time = 0, 0
		}
		checkVisible(t, plain, class, now, seen...)
		checkOut(t, other, class, now, access.Out(plain, class, now)...)
		checkNext(t, other, class, now, access.Next(plain, class, now))
	}
}

// P6.1: N and Time are kept, also if both are at their bounds.
func TestVisibleKeepsNumberAndTime(t *testing.T) {
	l := []api.Fact{publish(1, api.Label{}), revise(1, "en", 1, 0, open, heading(1, open)), correct(1, "en", 1), {Kind: api.FTemplate, Name: "front"}, {Kind: api.FRetract, Story: 1, Text: "Wrong."}}
	for i := range l {
		l[i].N, l[i].Time = 500-i, api.MaxTime-i
	}
	checkVisible(t, l, 0, 0, l...)
	l = append(l, api.Fact{N: 500, Time: api.MaxTime, Kind: api.FTakedown, Story: 1})
	checkVisible(t, l, 0, 0, l[0], l[3], l[5])
}

// missing reports whether a story of few is not in many.
func missing(few []int, many []int) bool {
	return slices.ContainsFunc(few, func(id int) bool { return !slices.Contains(many, id) })
}

// P6.2: what is out contains exactly the published stories whose labels allow it, given what is out, and no smaller set contains all that are allowed, given it.
func TestOutIsTheSmallestSet(t *testing.T) {
	m := newMaker(3)
	for range 3000 {
		l := validOnly(m.spoiledLog(10))
		class, now := m.classAndTime()
		out := access.Out(l, class, now)
		for _, id := range storyPool {
			p := publication(l, id)
			allowed := p != nil && label.Allows(p.Label, class, now, out, approvals(l, id))
			if allowed != slices.Contains(out, id) {
				t.Fatalf("Out(%v, %d, %d) = %v, but story %d", l, class, now, out, id)
			}
		}
		if want := outOf(l, class, now); !slices.Equal(out, want) {
			t.Fatalf("Out(%v, %d, %d) = %v, but %v is enough", l, class, now, out, want)
		}
	}
}

// P6.2: a story that was out still is at a later time, with an additional approval, or for a label that is at most as strict.
func TestOutGrows(t *testing.T) {
	m := newMaker(4)
	grown := 0
	for range 5000 {
		l := validOnly(m.log(10))
		class, now := m.classAndTime()
		out := access.Out(l, class, now)
		approved := slices.Insert(slices.Clone(l), m.Intn(len(l)+1), approve(m.story(), 1+m.Intn(5)))
		eased := slices.Clone(l)
		if p := publication(eased, m.story()); p != nil {
			for range 20 {
				if weaker := m.label(); label.Leq(weaker, p.Label) {
					p.Label = weaker
				}
			}
		}
		for _, more := range [][]int{access.Out(l, class, now+1+m.Intn(5)), access.Out(l, class, math.MaxInt), access.Out(approved, class, now), access.Out(eased, class, now)} {
			if missing(out, more) {
				t.Fatalf("of %v only %v are out: %v", out, more, l)
			}
			grown += len(more) - len(out)
		}
	}
	if grown < 1000 {
		t.Errorf("only %d stories were added", grown)
	}
}

// P6.3: what is not open can be replaced without an effect on what is visible.
func TestHiddenContentsHaveNoEffect(t *testing.T) {
	m := newMaker(5)
	replaced := 0
	for range 3000 {
		l := validOnly(m.log(25))
		class, now := m.classAndTime()
		s := sightOf(l, class, now)
		other := slices.Clone(l)
		for i, f := range l {
			if f.Kind != api.FRevise && (f.Kind != api.FCorrect || s.corrected(i)) {
				continue
			}
			g := &other[i]
			if f.Kind == api.FCorrect {
				g.Text = "Secret."
				replaced++
				continue
			}
			hidden := !s.isOpen(f)
			if hidden {
				g.Title, g.Author, g.Topics = "Secret", "spy", []string{"s", "secret"}
				replaced++
			}
			g.Blocks = slices.Clone(f.Blocks)
			for k, b := range f.Blocks {
				if hidden || !s.allows(f.Story, b.Label) {
					g.Blocks[k].Text = "Secret. Top secret."
					replaced++
				}
			}
			if !fact.Valid(*g) {
				t.Fatalf("%v is not valid", *g)
			}
		}
		checkVisible(t, other, class, now, access.Visible(l, class, now)...)
	}
	if replaced < 3000 {
		t.Errorf("only %d contents were hidden", replaced)
	}
}

// P6.4: what is visible is valid, and all of it is visible, unchanged, to any class at any time from 0 on.
func TestVisibleOfVisible(t *testing.T) {
	m := newMaker(6)
	for range 1500 {
		l := m.spoiledLog(25)
		class, now := m.classAndTime()
		seen := access.Visible(l, class, now)
		for _, f := range seen {
			if !fact.Valid(f) {
				t.Fatalf("Visible(%v, %d, %d) contains %v, which is not valid", l, class, now, f)
			}
		}
		for class := range 4 {
			for _, now := range []int{0, m.Intn(12), math.MaxInt} {
				checkVisible(t, seen, class, now, seen...)
				checkNext(t, seen, class, now, -1)
			}
		}
	}
}

// P6.5: what is visible stays the same until Next, or for ever if there is none.
func TestNothingChangesBeforeNext(t *testing.T) {
	m := newMaker(7)
	for range 2000 {
		l := m.spoiledLog(20)
		class, now := m.classAndTime()
		seen := access.Visible(l, class, now)
		next := access.Next(l, class, now)
		for time := now + 1; time < 15; time++ {
			same := fact.SameList(access.Visible(l, class, time), seen)
			if !same && (next < 0 || time < next) || same && time == next {
				t.Fatalf("Next(%v, %d, %d) = %d, but at %d: %v", l, class, now, next, time, same)
			}
		}
		if next < 0 {
			checkVisible(t, l, class, api.MaxTime, seen...)
			checkVisible(t, l, class, math.MaxInt, seen...)
		}
	}
}

// P6.6: what is left of the facts of stories that are taken down has the same effect as these facts.
func TestRedactionHasNoEffect(t *testing.T) {
	m := newMaker(8)
	redacted := 0
	for range 3000 {
		l := m.spoiledLog(25)
		for range 2 {
			l = slices.Insert(l, m.Intn(len(l)+1), takedown(m.story()))
		}
		class, now := m.classAndTime()
		other := slices.Clone(l)
		valid := validOnly(l)
		for i, f := range l {
			if last(valid, func(g api.Fact) bool { return g.Kind == api.FTakedown && g.Story == f.Story }) != nil {
				other[i] = fact.Redact(f)
			}
			if !fact.Same(other[i], f) {
				redacted++
			}
		}
		checkOut(t, other, class, now, access.Out(l, class, now)...)
		checkVisible(t, other, class, now, access.Visible(l, class, now)...)
	}
	if redacted < 3000 {
		t.Errorf("only %d facts were redacted", redacted)
	}
}
