package access

import (
	"slices"

	"copydesk/api"
	"copydesk/label"
)

// view is what a class may see of a log at a time. Its parts are found one after the other: first the stories that are out, then the open revisions, and then, in the order of the log, the blocks that may be corrected.
type view struct {
	log       *log
	satisfied func(story int, l api.Label) bool
	out       []int
	revisions map[revisionID]revision
	blocks    map[blockID]bool
}

// revisionID identifies the revisions of an edition with the same Rev.
type revisionID struct {
	story int
	lang  string
	rev   int
}

// revision is the last one of the revisions with the same revisionID.
type revision struct {
	base int
	open bool
}

// blockID identifies the blocks of the revisions of an edition with the same ID.
type blockID struct {
	story int
	lang  string
	id    int
}

// newView returns the view of the class at the time now, with the stories that are out.
func newView(x *log, class int, now int) *view {
	v := &view{log: x, revisions: map[revisionID]revision{}, blocks: map[blockID]bool{}}
	v.satisfied = func(story int, l api.Label) bool {
		return label.Allows(l, class, now, v.out, x.approvals[story])
	}
	for v.release() {
	}
	return v
}

// release adds the stories to those that are out that can be added, and reports whether there were any.
func (v *view) release() bool {
	before := len(v.out)
	for story, published := range v.log.published {
		if published && !v.isOut(story) && v.satisfied(story, v.log.labels[story]) {
			v.out = append(v.out, story)
		}
	}
	return len(v.out) > before
}

// isOut reports whether the story is out.
func (v *view) isOut(story int) bool {
	return slices.Contains(v.out, story)
}

// isShown reports whether the story is out and not taken down.
func (v *view) isShown(story int) bool {
	return v.isOut(story) && !v.log.taken[story]
}

// isOpen reports whether the revision f is open.
func (v *view) isOpen(f api.Fact) bool {
	return v.isShown(f.Story) && v.satisfied(f.Story, f.Label)
}

// visible returns the facts that the class may see at the time now.
func (x *log) visible(class int, now int) []api.Fact {
	if class < 0 || class >= api.MaxClasses {
		return nil
	}
	v := newView(x, class, now)
	v.noteRevisions()
	var seen []api.Fact
	for _, f := range x.facts {
		var left []api.Block
		if v.sees(f) {
			left = v.openBlocks(f)
			seen = append(seen, v.stripped(f, left))
		}
		v.noteBlocks(f, left)
	}
	return seen
}

// noteRevisions notes which revisions are open.
func (v *view) noteRevisions() {
	for _, f := range v.log.facts {
		if f.Kind == api.FRevise {
			v.revisions[revisionID{f.Story, f.Lang, f.Rev}] = revision{base: f.Base, open: v.isOpen(f)}
		}
	}
}

// noteBlocks notes which blocks of f are open: those that are left of it in the view. A correction concerns the last block with its ID that comes before it, also if that is not open, so that later blocks replace earlier ones.
func (v *view) noteBlocks(f api.Fact, left []api.Block) {
	for _, b := range f.Blocks {
		v.blocks[blockID{f.Story, f.Lang, b.ID}] = false
	}
	for _, b := range left {
		v.blocks[blockID{f.Story, f.Lang, b.ID}] = true
	}
}

// sees reports whether f is visible, when all facts before it have been noted.
func (v *view) sees(f api.Fact) bool {
	switch f.Kind {
	case api.FTemplate:
		return true
	case api.FPublish, api.FTakedown:
		return v.isOut(f.Story)
	case api.FRetract:
		return v.isShown(f.Story)
	case api.FRevise:
		return v.isOpen(f)
	case api.FCorrect:
		return v.blocks[blockID{f.Story, f.Lang, f.Block}]
	}
	return false
}

// openBlocks returns the blocks of f that are open, without their labels, in new memory.
func (v *view) openBlocks(f api.Fact) []api.Block {
	var open []api.Block
	for _, b := range f.Blocks {
		if v.satisfied(f.Story, b.Label) {
			b.Label = api.Label{}
			open = append(open, b)
		}
	}
	return open
}

// stripped returns the visible fact f as the class sees it, with the given blocks. Facts other than revisions have no Base, no Topics and no Blocks, and stay without.
func (v *view) stripped(f api.Fact, blocks []api.Block) api.Fact {
	f.Base = v.openAncestor(f)
	f.Topics = append([]string(nil), f.Topics...)
	f.Blocks = blocks
	f.Label = api.Label{}
	return f
}

// openAncestor returns the Rev of the nearest open ancestor of f, or 0 if there is none.
func (v *view) openAncestor(f api.Fact) int {
	rev := f.Base
search:
	for rev != 0 {
		ancestor, found := v.revisions[revisionID{f.Story, f.Lang, rev}]
		switch {
		case !found:
			return 0
		case ancestor.open:
			break search
		}
		rev = ancestor.base
	}
	return rev
}
