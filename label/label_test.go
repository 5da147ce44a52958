package label_test

import (
	"math"
	"math/rand"
	"slices"
	"testing"

	"copydesk/api"
	"copydesk/label"
)

// allStories returns the longest valid After.
func allStories() []int {
	var l []int
	for id := 1; id <= api.MaxStories; id++ {
		l = append(l, id)
	}
	return l
}

// outside returns integers that no bounded field may have; some of them are 0 in their lowest 8, 16 or 32 bits.
func outside() []int {
	return []int{math.MinInt, -1 << 32, -1000000001, -1000000000, -64, -1, 1000000001, 1 << 32, api.MaxInt, 1 << 62, math.MaxInt}
}

// invalidLabels returns labels of which one field is not valid.
func invalidLabels() []api.Label {
	var l []api.Label
	for _, n := range outside() {
		l = append(l, api.Label{Until: n}, api.Label{Approvals: n}, api.Label{Denied: n},
			api.Label{After: []int{n}}, api.Label{After: []int{1, n}}, api.Label{After: []int{n, 64}})
	}
	for _, after := range [][]int{
		{0}, {65}, {0, 1}, {64, 65}, {-1, 0, 1}, append(allStories(), 65), append([]int{0}, allStories()...),
		{1, 1}, {64, 64}, {2, 1}, {1, 2, 2}, {1, 3, 2}, {2, 1, 3}, {1, 2, 1}, {5, 4, 3, 2, 1}, append(allStories(), 64), append(allStories(), 1),
	} {
		l = append(l, api.Label{After: after}, api.Label{Until: 5, After: after, Approvals: 1, Denied: 2})
	}
	for _, n := range []int{6, 7, 256, 257, -2} {
		l = append(l, api.Label{Approvals: n}, api.Label{Until: 5, After: []int{2}, Approvals: n, Denied: 2})
	}
	for _, n := range []int{16, 17, 31, 32, 256, -16, -15} {
		l = append(l, api.Label{Denied: n}, api.Label{Until: 5, After: []int{2}, Approvals: 1, Denied: n})
	}
	return l
}

// subsets returns the lists that contain some of the elements of list, in its order.
func subsets(list ...int) [][]int {
	var l [][]int
	for bits := range 1 << len(list) {
		var some []int
		for i, n := range list {
			if bits>>i&1 == 1 {
				some = append(some, n)
			}
		}
		l = append(l, some)
	}
	return l
}

// grid returns the labels whose fields have the given values, in all combinations.
func grid(untils []int, afters [][]int, approvals []int, denied []int) []api.Label {
	var l []api.Label
	for _, u := range untils {
		for _, a := range afters {
			for _, n := range approvals {
				for _, d := range denied {
					l = append(l, api.Label{Until: u, After: slices.Clone(a), Approvals: n, Denied: d})
				}
			}
		}
	}
	return l
}

// validLabels returns labels at the bounds of the fields, for tests of pairs.
func validLabels() []api.Label {
	l := grid([]int{0, 1, api.MaxTime}, subsets(1, 2, 64), []int{0, 1, 5}, []int{0, 3, 5, 8, 15})
	return append(l, api.Label{After: allStories()}, api.Label{Until: api.MaxTime, After: allStories(), Approvals: 5, Denied: 15})
}

// fewLabels returns labels for tests of triples.
func fewLabels() []api.Label {
	return grid([]int{0, 7}, subsets(3, 4), []int{0, 2}, []int{0, 1, 2, 3})
}

// someLabel returns a valid label of any kind.
func someLabel(r *rand.Rand) api.Label {
	l := api.Label{Until: r.Intn(4), Approvals: r.Intn(api.MaxEditors + 1), Denied: r.Intn(16)}
	if r.Intn(3) == 0 {
		l.Until = r.Intn(api.MaxTime + 1)
	}
	likely := r.Intn(4)
	for _, id := range allStories() {
		if r.Intn(4) < likely {
			l.After = append(l.After, id)
		}
	}
	return l
}

func isZero(l api.Label) bool {
	return l.Until == 0 && len(l.After) == 0 && l.Approvals == 0 && l.Denied == 0
}

// equal compares labels field by field.
func equal(a, b api.Label) bool {
	if len(a.After) != len(b.After) {
		return false
	}
	for i := range a.After {
		if a.After[i] != b.After[i] {
			return false
		}
	}
	return a.Until == b.Until && a.Approvals == b.Approvals && a.Denied == b.Denied
}

// P2.1: the bounds of each field are valid.
func TestValidLabels(t *testing.T) {
	l := append(validLabels(), api.Label{}, api.Label{After: []int{}})
	for _, n := range []int{0, 1, 2, 12345, 999999999, 1000000000} {
		l = append(l, api.Label{Until: n})
	}
	for id := 1; id <= 64; id++ {
		l = append(l, api.Label{After: []int{id}}, api.Label{After: allStories()[:id]}, api.Label{After: allStories()[id-1:]})
	}
	for n := range 6 {
		l = append(l, api.Label{Approvals: n})
	}
	for n := range 16 {
		l = append(l, api.Label{Denied: n})
	}
	r := rand.New(rand.NewSource(1))
	for range 2000 {
		l = append(l, someLabel(r))
	}
	for _, x := range l {
		if !label.Valid(x) {
			t.Errorf("Valid(%v) = false", x)
		}
	}
}

// P2.1: one field that is not valid is enough.
func TestInvalidLabels(t *testing.T) {
	for _, x := range invalidLabels() {
		if label.Valid(x) {
			t.Errorf("Valid(%v) = true", x)
		}
	}
}

// P2.1: of all short lists, exactly the strictly ascending ones of story IDs are valid.
func TestValidAfter(t *testing.T) {
	ids := []int{-1, 0, 1, 2, 63, 64, 65}
	for _, a := range ids {
		for _, b := range ids {
			for _, c := range ids {
				want := 1 <= a && a < b && b < c && c <= 64
				if l := (api.Label{After: []int{a, b, c}}); label.Valid(l) != want {
					t.Errorf("Valid(%v) = %v", l, !want)
				}
			}
		}
	}
}

// P2.1: a label is the same as itself and no other one, valid or not.
func TestSame(t *testing.T) {
	l := append(fewLabels(), invalidLabels()...)
	l = append(l, api.Label{After: []int{4, 3}}, api.Label{After: []int{3, 3}}, api.Label{After: []int{3, 4, 4}}, api.Label{After: []int{3, 4, 5}})
	for _, a := range l {
		for _, b := range l {
			if label.Same(a, b) != equal(a, b) {
				t.Errorf("Same(%v, %v) = %v", a, b, !equal(a, b))
			}
		}
	}
}

// P2.1: equal contents in different memory are the same; nil is the same as empty.
func TestSameComparesContents(t *testing.T) {
	for _, l := range append(validLabels(), invalidLabels()...) {
		other := l
		other.After = append(make([]int, 0, 100), l.After...)
		if !label.Same(l, other) || !label.Same(other, l) {
			t.Errorf("Same(%v, %v) = false", l, other)
		}
	}
	zero, empty := api.Label{}, api.Label{After: []int{}}
	if !label.Same(zero, empty) || !label.Same(empty, zero) {
		t.Error("nil and empty lists are not the same")
	}
}

// P2.1: a difference in one field is a difference, also of labels that are not valid.
func TestSameNoticesEachField(t *testing.T) {
	a := api.Label{Until: -3, After: []int{70, 70}, Approvals: 9, Denied: -1}
	for _, b := range []api.Label{
		{Until: -4, After: []int{70, 70}, Approvals: 9, Denied: -1},
		{Until: -3 + 1<<32, After: []int{70, 70}, Approvals: 9, Denied: -1},
		{Until: -3, After: []int{70}, Approvals: 9, Denied: -1},
		{Until: -3, After: []int{70, 70, 70}, Approvals: 9, Denied: -1},
		{Until: -3, After: []int{70, 71}, Approvals: 9, Denied: -1},
		{Until: -3, After: []int{71, 70}, Approvals: 9, Denied: -1},
		{Until: -3, Approvals: 9, Denied: -1},
		{Until: -3, After: []int{70, 70}, Approvals: 8, Denied: -1},
		{Until: -3, After: []int{70, 70}, Approvals: 9, Denied: 15},
	} {
		if label.Same(a, b) || label.Same(b, a) {
			t.Errorf("Same(%v, %v) = true", a, b)
		}
	}
}
