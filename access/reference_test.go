package access_test

import (
	"math/rand"
	"slices"

	"copydesk/api"
	"copydesk/fact"
	"copydesk/label"
)

// storyPool contains the stories of the logs that are made for the tests.
var storyPool = []int{1, 2, 31, 63, 64}

// validOnly returns the valid facts of l.
func validOnly(l []api.Fact) []api.Fact {
	var only []api.Fact
	for _, f := range l {
		if fact.Valid(f) {
			only = append(only, f)
		}
	}
	return only
}

// last returns the last fact of l that is wanted, or nil if there is none.
func last(l []api.Fact, wanted func(f api.Fact) bool) *api.Fact {
	for i := len(l) - 1; i >= 0; i-- {
		if wanted(l[i]) {
			return &l[i]
		}
	}
	return nil
}

// publication returns the last publication of a story, or nil.
func publication(l []api.Fact, story int) *api.Fact {
	return last(l, func(f api.Fact) bool { return f.Kind == 3 && f.Story == story })
}

// approvals counts the editors who have approved a story.
func approvals(l []api.Fact, story int) int {
	editors := map[int]bool{}
	for _, f := range l {
		if f.Kind == 2 && f.Story == story {
			editors[f.Editor] = true
		}
	}
	return len(editors)
}

// outOf returns the stories that are out in a log of valid facts about the stories of the pool: those that are in all sets that contain every published story whose label allows it, given the set.
func outOf(l []api.Fact, class, now int) []int {
	out := storyPool
	for chosen := range 1 << len(storyPool) {
		var set []int
		for i, id := range storyPool {
			if chosen>>i&1 == 1 {
				set = append(set, id)
			}
		}
		closed := true
		for _, id := range storyPool {
			p := publication(l, id)
			if p != nil && label.Allows(p.Label, class, now, set, approvals(l, id)) && !slices.Contains(set, id) {
				closed = false
			}
		}
		if closed {
			var both []int
			for _, id := range out {
				if slices.Contains(set, id) {
					both = append(both, id)
				}
			}
			out = both
		}
	}
	return out
}

// sight is what decides what a class may see of a log of valid facts at a time.
type sight struct {
	l          []api.Fact
	class, now int
	out        []int
}

func sightOf(l []api.Fact, class, now int) sight {
	return sight{l, class, now, outOf(l, class, now)}
}

func (s sight) allows(story int, l api.Label) bool {
	return label.Allows(l, s.class, s.now, s.out, approvals(s.l, story))
}

// isOut reports whether the story of f is out, and also not taken down if that is asked for.
func (s sight) isOut(f api.Fact, notTaken bool) bool {
	taken := last(s.l, func(g api.Fact) bool { return g.Kind == 6 && g.Story == f.Story })
	return slices.Contains(s.out, f.Story) && !(notTaken && taken != nil)
}

func (s sight) isOpen(f api.Fact) bool {
	return s.isOut(f, true) && s.allows(f.Story, f.Label)
}

// base returns the Base that the class sees in a revision.
func (s sight) base(f api.Fact) int {
	b := f.Base
	for b != 0 {
		r := last(s.l, func(g api.Fact) bool { return g.Kind == 1 && g.Story == f.Story && g.Lang == f.Lang && g.Rev == b })
		if r == nil {
			return 0
		}
		if s.isOpen(*r) {
			return b
		}
		b = r.Base
	}
	return 0
}

// corrected reports whether the class may see what the correction at index i corrects.
func (s sight) corrected(i int) bool {
	f := s.l[i]
	find := func(g api.Fact) int {
		return slices.IndexFunc(g.Blocks, func(b api.Block) bool { return b.ID == f.Block })
	}
	r := last(s.l[:i], func(g api.Fact) bool { return g.Kind == 1 && g.Story == f.Story && g.Lang == f.Lang && find(g) >= 0 })
	return r != nil && s.isOpen(*r) && s.allows(r.Story, r.Blocks[find(*r)].Label)
}

// visibleOf returns what Visible must return.
func visibleOf(l []api.Fact, class, now int) []api.Fact {
	if class < 0 || class > 3 {
		return nil
	}
	s := sightOf(validOnly(l), class, now)
	var seen []api.Fact
	for i, f := range s.l {
		visible := false
		switch f.Kind {
		case 1:
			visible = s.isOpen(f)
		case 3, 6:
			visible = s.isOut(f, false)
		case 4:
			visible = s.isOut(f, true) && s.corrected(i)
		case 5:
			visible = s.isOut(f, true)
		case 7:
			visible = true
		}
		if visible {
			seen = append(seen, s.seenAs(f))
		}
	}
	return seen
}

// seenAs returns a visible fact as the class sees it.
func (s sight) seenAs(f api.Fact) api.Fact {
	if f.Kind == 1 {
		f.Base = s.base(f)
		var open []api.Block
		for _, b := range f.Blocks {
			if s.allows(f.Story, b.Label) {
				b.Label = api.Label{}
				open = append(open, b)
			}
		}
		f.Blocks = open
	}
	f.Label = api.Label{}
	return f
}

// nextOf returns what Next must return for a log in whose labels no Until is from 10 on.
func nextOf(l []api.Fact, class, now int) int {
	for time := max(now, -1) + 1; time < 10; time++ {
		if !fact.SameList(visibleOf(l, class, time), visibleOf(l, class, now)) {
			return time
		}
	}
	return -1
}

// maker makes logs about the stories of the pool.
type maker struct {
	*rand.Rand
}

func newMaker(seed int64) maker {
	return maker{rand.New(rand.NewSource(seed))}
}

// rarely reports true in one of n cases.
func (m maker) rarely(n int) bool {
	return m.Intn(n) == 0
}

func (m maker) story() int {
	return storyPool[m.Intn(len(storyPool))]
}

// label returns a label that is easily satisfied, and often the zero label.
func (m maker) label() api.Label {
	var l api.Label
	if m.rarely(2) {
		return l
	}
	if m.rarely(2) {
		l.Until = m.Intn(10)
	}
	if m.rarely(4) {
		for _, id := range storyPool {
			if m.rarely(3) {
				l.After = append(l.After, id)
			}
		}
	}
	if m.rarely(5) {
		l.Approvals = 1 + m.Intn(2)
	}
	if m.rarely(5) {
		l.Denied = m.Intn(16)
	}
	return l
}

func (m maker) lang() string {
	return []string{"en", "en", "fr"}[m.Intn(3)]
}

func (m maker) text() string {
	return []string{"One.", "Two.", "Three."}[m.Intn(3)]
}

// blocks returns blocks with few IDs, in any order.
func (m maker) blocks() []api.Block {
	var l []api.Block
	for _, id := range m.Perm(3) {
		if !m.rarely(3) {
			l = append(l, api.Block{ID: id*499 + 1, Kind: 1 + m.Intn(2), Text: m.text(), Label: m.label()})
		}
	}
	return l
}

// fact returns a valid fact.
func (m maker) fact() api.Fact {
	f := api.Fact{N: m.Intn(501), Time: m.Intn(12), Story: m.story()}
	switch m.Intn(20) {
	default:
		f.Kind, f.Lang, f.Rev, f.Title, f.Author = 1, m.lang(), 1+m.Intn(5), m.text(), "ann"
		f.Base, f.Topics, f.Blocks, f.Label = m.Intn(f.Rev), []string{"a", "b"}[:m.Intn(3)], m.blocks(), m.label()
	case 0, 1:
		f.Kind, f.Editor = 2, 1+m.Intn(5)
	case 2, 3, 4, 5:
		f.Kind, f.Label = 3, m.label()
	case 6, 7, 8, 9:
		f.Kind, f.Lang, f.Block, f.Sentence, f.Text = 4, m.lang(), m.Intn(3)*499+1, m.Intn(3), m.text()
	case 10:
		f.Kind, f.Text = 5, m.text()
	case 11:
		if m.rarely(4) {
			f.Kind = 6
		} else {
			f.Kind, f.Editor = 2, 1+m.Intn(5)
		}
	case 12:
		f.Kind, f.Story, f.Name, f.Text = 7, 0, "front", m.text()
	case 13:
		f = m.another(f)
	}
	return f
}

// another returns a fact of a kind that is never visible.
func (m maker) another(f api.Fact) api.Fact {
	switch m.Intn(3) {
	case 0:
		return api.Fact{N: f.N, Time: f.Time, Kind: 8, Partner: 1 + m.Intn(8), Class: m.Intn(4), Until: m.Intn(10)}
	case 1:
		return api.Fact{N: f.N, Time: f.Time, Kind: 9, Partner: 1 + m.Intn(8), Until: m.Intn(10)}
	}
	f.Kind = 10
	return f
}

// spoiled returns f with one field changed, often so that it is not valid. Label.Until is left alone: nextOf looks at few times.
func (m maker) spoiled(f api.Fact) api.Fact {
	wrong := []int{-1, 0, 65, 101, 1001, 1<<32 + 1}[m.Intn(6)]
	fields := []*int{&f.N, &f.Time, &f.Kind, &f.Story, &f.Rev, &f.Base, &f.Editor, &f.Block, &f.Sentence, &f.Partner, &f.Class, &f.Until, &f.Label.Approvals, &f.Label.Denied}
	texts := []*string{&f.Lang, &f.Title, &f.Author, &f.Text, &f.Name}
	if i := m.Intn(len(fields) + len(texts)); i < len(fields) {
		*fields[i] = wrong
	} else {
		*texts[i-len(fields)] = []string{"", "X\n", "A"}[m.Intn(3)]
	}
	return f
}

// log returns a log of at most the given number of facts. Most of its stories are published.
func (m maker) log(most int) []api.Fact {
	var l []api.Fact
	for range m.Intn(most + 1) {
		l = append(l, m.fact())
	}
	for _, id := range storyPool {
		if !m.rarely(5) {
			l = slices.Insert(l, m.Intn(len(l)+1), api.Fact{Kind: 3, Story: id, Label: m.label()})
		}
	}
	return l
}

// spoiledLog returns a log with facts that are not valid among the others.
func (m maker) spoiledLog(most int) []api.Fact {
	l := m.log(most)
	for range m.Intn(5) {
		l = slices.Insert(l, m.Intn(len(l)+1), m.spoiled(m.fact()))
	}
	return l
}

// classAndTime returns a class, which hardly ever does not exist, and a time at which some labels hold back something.
func (m maker) classAndTime() (int, int) {
	class := m.Intn(4)
	if m.rarely(20) {
		class = []int{-1, 4}[m.Intn(2)]
	}
	return class, m.Intn(12) - 1
}
