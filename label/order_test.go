package label_test

import (
	"math/rand"
	"testing"

	"copydesk/api"
	"copydesk/label"
)

func has(list []int, n int) bool {
	for _, x := range list {
		if x == n {
			return true
		}
	}
	return false
}

// joined joins valid labels as the chapter defines it, story by story and class by class.
func joined(a, b api.Label) api.Label {
	j := api.Label{Until: a.Until, Approvals: a.Approvals}
	if b.Until > j.Until {
		j.Until = b.Until
	}
	if b.Approvals > j.Approvals {
		j.Approvals = b.Approvals
	}
	for id := 1; id <= 64; id++ {
		if has(a.After, id) || has(b.After, id) {
			j.After = append(j.After, id)
		}
	}
	for value := 1; value <= 8; value *= 2 {
		if a.Denied/value%2 == 1 || b.Denied/value%2 == 1 {
			j.Denied += value
		}
	}
	return j
}

// atMostAsStrict compares valid labels as the chapter defines it, story by story and class by class.
func atMostAsStrict(a, b api.Label) bool {
	for _, id := range a.After {
		if !has(b.After, id) {
			return false
		}
	}
	for value := 1; value <= 8; value *= 2 {
		if a.Denied/value%2 == 1 && b.Denied/value%2 == 0 {
			return false
		}
	}
	return a.Until <= b.Until && a.Approvals <= b.Approvals
}

// eachPair calls f with pairs of valid labels: all of those at the bounds, and random ones.
func eachPair(f func(a, b api.Label)) {
	l := validLabels()
	for _, a := range l {
		for _, b := range l {
			f(a, b)
		}
	}
	r := rand.New(rand.NewSource(2))
	for range 20000 {
		a, b := someLabel(r), someLabel(r)
		f(a, b)
		f(a, joined(a, b))
	}
}

// eachTriple calls f with triples of valid labels: all of a few, and random ones.
func eachTriple(f func(a, b, c api.Label)) {
	l := fewLabels()
	for _, a := range l {
		for _, b := range l {
			for _, c := range l {
				f(a, b, c)
			}
		}
	}
	r := rand.New(rand.NewSource(3))
	for range 20000 {
		a, b, c := someLabel(r), someLabel(r), someLabel(r)
		f(a, b, c)
		f(a, b, joined(joined(a, b), c))
		f(a, joined(a, b), joined(joined(a, b), c))
	}
}

// P2.2: the examples of the chapter.
func TestJoinAndLeqOfTheExamples(t *testing.T) {
	a := api.Label{Until: 5, After: []int{2}, Approvals: 1, Denied: 2}
	b := api.Label{Until: 3, After: []int{1, 2, 7}, Denied: 4}
	want := api.Label{Until: 5, After: []int{1, 2, 7}, Approvals: 1, Denied: 6}
	j := label.Join(a, b)
	if !equal(j, want) {
		t.Errorf("Join(%v, %v) = %v, want %v", a, b, j, want)
	}
	if !label.Leq(a, j) || !label.Leq(b, j) || label.Leq(j, a) || label.Leq(j, b) || label.Leq(a, b) || label.Leq(b, a) {
		t.Error("Leq of the examples")
	}
}

// P2.2: Join is what the chapter defines, valid, and commutative.
func TestJoin(t *testing.T) {
	eachPair(func(a, b api.Label) {
		j, want := label.Join(a, b), joined(a, b)
		if !equal(j, want) || !label.Valid(j) {
			t.Fatalf("Join(%v, %v) = %v, want %v", a, b, j, want)
		}
		if !equal(label.Join(b, a), j) {
			t.Fatalf("Join(%v, %v) = %v, but the other way round %v", a, b, j, label.Join(b, a))
		}
	})
}

// P2.2: Join is idempotent, and the zero label is neutral.
func TestJoinWithItselfAndZero(t *testing.T) {
	r := rand.New(rand.NewSource(4))
	l := validLabels()
	for range 2000 {
		l = append(l, someLabel(r))
	}
	for _, a := range l {
		for _, j := range []api.Label{label.Join(a, a), label.Join(a, api.Label{}), label.Join(api.Label{}, a), label.Join(api.Label{After: []int{}}, a)} {
			if !equal(j, a) {
				t.Errorf("%v joined with itself or with the zero label is %v", a, j)
			}
		}
	}
}

// P2.2
func TestJoinIsAssociative(t *testing.T) {
	eachTriple(func(a, b, c api.Label) {
		left, right := label.Join(label.Join(a, b), c), label.Join(a, label.Join(b, c))
		if !equal(left, right) {
			t.Fatalf("Join of %v, %v and %v: %v and %v", a, b, c, left, right)
		}
	})
}

// P2.2: if one label is not valid, Join returns the zero label, and Leq is false.
func TestJoinAndLeqOfInvalidLabels(t *testing.T) {
	valid := []api.Label{{}, {Until: api.MaxTime, After: allStories(), Approvals: 5, Denied: 15}, {Until: 5, After: []int{2}, Approvals: 1, Denied: 2}}
	for _, a := range invalidLabels() {
		for _, b := range append(valid, a, api.Label{Until: -1}, api.Label{Denied: 16}) {
			if j := label.Join(a, b); !isZero(j) {
				t.Errorf("Join(%v, %v) = %v", a, b, j)
			}
			if j := label.Join(b, a); !isZero(j) {
				t.Errorf("Join(%v, %v) = %v", b, a, j)
			}
			if label.Leq(a, b) || label.Leq(b, a) {
				t.Errorf("Leq of %v and %v is true", a, b)
			}
		}
	}
}

// P2.2: Leq is what the chapter defines, and agrees with Join.
func TestLeq(t *testing.T) {
	eachPair(func(a, b api.Label) {
		leq := label.Leq(a, b)
		if leq != atMostAsStrict(a, b) {
			t.Fatalf("Leq(%v, %v) = %v", a, b, leq)
		}
		if leq != label.Same(label.Join(a, b), b) {
			t.Fatalf("Leq(%v, %v) = %v, but their join is %v", a, b, leq, label.Join(a, b))
		}
	})
}

// P2.2: each story of After counts, wherever it is in either list.
func TestLeqOfAfter(t *testing.T) {
	lists := subsets(1, 2, 3, 30, 63, 64)
	for _, x := range lists {
		for _, y := range lists {
			a, b := api.Label{After: x}, api.Label{After: y}
			if label.Leq(a, b) != atMostAsStrict(a, b) {
				t.Errorf("Leq(%v, %v) = %v", a, b, !atMostAsStrict(a, b))
			}
		}
	}
}

// P2.3: Leq is reflexive on valid labels, and antisymmetric.
func TestLeqIsAntisymmetric(t *testing.T) {
	eachPair(func(a, b api.Label) {
		if !label.Leq(a, a) || !label.Leq(b, b) {
			t.Fatalf("%v or %v is not at most as strict as itself", a, b)
		}
		if label.Leq(a, b) && label.Leq(b, a) && !label.Same(a, b) {
			t.Fatalf("Leq of %v and %v is true both ways", a, b)
		}
	})
}

// P2.3: Leq is transitive, and Join is the least upper bound.
func TestJoinIsTheLeastUpperBound(t *testing.T) {
	eachTriple(func(a, b, c api.Label) {
		if label.Leq(a, b) && label.Leq(b, c) && !label.Leq(a, c) {
			t.Fatalf("Leq is not transitive for %v, %v and %v", a, b, c)
		}
		both := label.Leq(a, c) && label.Leq(b, c)
		if label.Leq(label.Join(a, b), c) != both {
			t.Fatalf("Leq of the join of %v and %v, and %v, is %v", a, b, c, !both)
		}
	})
}

// overlay returns a label whose After is at the beginning of memory with spare room, and that memory.
func overlay(l api.Label) (api.Label, []int) {
	memory := make([]int, len(l.After)+70)
	for i := range memory {
		memory[i] = -7 - i
	}
	copy(memory, l.After)
	l.After = memory[:len(l.After)]
	return l, memory
}

// P2.2: Join changes neither its arguments nor their spare room, and its result is new memory.
func TestJoinReturnsNewMemory(t *testing.T) {
	lists := [][]int{nil, {}, {2}, {1, 2, 7}, {3, 64}, allStories()}
	for _, x := range lists {
		for _, y := range lists {
			a, memoryA := overlay(api.Label{After: x})
			b, memoryB := overlay(api.Label{After: y})
			_, wantA := overlay(api.Label{After: x})
			_, wantB := overlay(api.Label{After: y})
			j, other := label.Join(a, b), label.Join(a, b)
			all := j.After[:cap(j.After)]
			for i := range all {
				all[i] = 99
			}
			if !equal(api.Label{After: memoryA}, api.Label{After: wantA}) || !equal(api.Label{After: memoryB}, api.Label{After: wantB}) {
				t.Fatalf("the memory of %v or %v has changed", x, y)
			}
			if !equal(other, joined(api.Label{After: x}, api.Label{After: y})) {
				t.Fatalf("two joins of %v and %v share memory", x, y)
			}
		}
	}
}
