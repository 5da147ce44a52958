package label_test

import (
	"math"
	"math/rand"
	"slices"
	"testing"

	"copydesk/api"
	"copydesk/label"
)

// reader is what Allows is asked for.
type reader struct {
	class, now int
	out        []int
	approvals  int
}

func allows(l api.Label, r reader) bool {
	return label.Allows(l, r.class, r.now, r.out, r.approvals)
}

// permitted decides for a valid label as the chapter defines it.
func permitted(l api.Label, r reader) bool {
	if r.class < 0 || r.class > 3 || l.Denied/[]int{1, 2, 4, 8}[r.class]%2 == 1 {
		return false
	}
	for _, id := range l.After {
		if !has(r.out, id) {
			return false
		}
	}
	return r.now >= l.Until && r.approvals >= l.Approvals
}

// someReader returns a reader for whom the conditions of a label often hold just so.
func someReader(r *rand.Rand, l api.Label) reader {
	x := reader{r.Intn(6) - 1, l.Until, nil, l.Approvals}
	if r.Intn(3) == 0 {
		x.now += r.Intn(3) - 1
	}
	if r.Intn(3) == 0 {
		x.approvals += r.Intn(3) - 1
	}
	x.out = append(x.out, l.After...)
	for range r.Intn(5) {
		x.out = append(x.out, r.Intn(70)-3)
	}
	r.Shuffle(len(x.out), func(i, k int) { x.out[i], x.out[k] = x.out[k], x.out[i] })
	if r.Intn(3) == 0 && len(x.out) > 0 {
		x.out = x.out[1:]
	}
	return x
}

// P2.4: the examples of the chapter, and the bounds of each condition.
func TestAllowsOfTheExamples(t *testing.T) {
	l := api.Label{Until: 5, After: []int{1, 2, 7}, Approvals: 1, Denied: 6}
	for _, c := range []struct {
		r    reader
		want bool
	}{
		{reader{0, 5, []int{7, 1, 2}, 1}, true},
		{reader{3, 5, []int{7, 1, 2}, 1}, true},
		{reader{0, 4, []int{7, 1, 2}, 1}, false},
		{reader{0, 5, []int{7, 1}, 1}, false},
		{reader{0, 5, []int{7, 2}, 1}, false},
		{reader{0, 5, []int{1, 2}, 1}, false},
		{reader{0, 5, nil, 1}, false},
		{reader{0, 5, []int{7, 1, 2}, 0}, false},
		{reader{1, 5, []int{7, 1, 2}, 1}, false},
		{reader{2, 5, []int{7, 1, 2}, 1}, false},
		{reader{0, math.MaxInt, []int{9, 2, 2, -4, 1, math.MinInt, 7, 7}, math.MaxInt}, true},
		{reader{0, math.MinInt, []int{7, 1, 2}, 1}, false},
		{reader{0, 5, []int{7, 1, 2}, math.MinInt}, false},
	} {
		if allows(l, c.r) != c.want {
			t.Errorf("Allows(%v, %v) = %v", l, c.r, !c.want)
		}
	}
}

// P2.4: the zero label has no other conditions than that now and approvals are not negative and that there is such a class.
func TestAllowsOfTheZeroLabel(t *testing.T) {
	for class := range 4 {
		if !allows(api.Label{}, reader{class, 0, nil, 0}) || !allows(api.Label{After: []int{}}, reader{class, 9, []int{5}, 9}) {
			t.Errorf("the zero label does not allow class %d", class)
		}
		if allows(api.Label{}, reader{class, -1, nil, 0}) || allows(api.Label{}, reader{class, 0, nil, -1}) {
			t.Errorf("the zero label allows class %d before 0 or with less than no approval", class)
		}
	}
	for _, class := range []int{-1, 4, 5, 31, 32, 63, 64, -64, 1 << 32, math.MinInt, math.MaxInt} {
		if allows(api.Label{}, reader{class, 9, nil, 9}) {
			t.Errorf("the zero label allows class %d", class)
		}
	}
}

// P2.4: bit c of Denied stands for class c.
func TestAllowsOfEachClass(t *testing.T) {
	for denied := range 16 {
		for class := range 4 {
			want := denied/[]int{1, 2, 4, 8}[class]%2 == 0
			if allows(api.Label{Denied: denied}, reader{class, 0, nil, 0}) != want {
				t.Errorf("Denied %d, class %d: %v", denied, class, !want)
			}
		}
	}
}

// P2.4: an invalid label allows nobody, however favourable the circumstances.
func TestAllowsOfInvalidLabels(t *testing.T) {
	out := append(allStories(), outside()...)
	out = append(out, 0, 65)
	for _, l := range invalidLabels() {
		for class := -1; class <= 4; class++ {
			if allows(l, reader{class, math.MaxInt, out, math.MaxInt}) {
				t.Errorf("%v allows class %d", l, class)
			}
		}
	}
}

// P2.4: Allows is what the chapter defines, and changes nothing in out.
func TestAllowsAgreesWithTheDefinition(t *testing.T) {
	r := rand.New(rand.NewSource(5))
	allowed := 0
	for range 50000 {
		l := someLabel(r)
		x := someReader(r, l)
		out := slices.Clone(x.out)
		got := allows(l, x)
		if got != permitted(l, x) {
			t.Fatalf("Allows(%v, %v) = %v", l, x, got)
		}
		if !slices.Equal(out, x.out) {
			t.Fatalf("Allows has changed out from %v to %v", out, x.out)
		}
		if got {
			allowed++
		}
	}
	if allowed < 1000 {
		t.Fatalf("only %d readers were allowed", allowed)
	}
}

// P2.4: the join of two labels allows what both allow, and a label allows what a stricter one does.
func TestAllowsOfJoins(t *testing.T) {
	r := rand.New(rand.NewSource(6))
	check := func(a, b api.Label, x reader) {
		both := allows(a, x) && allows(b, x)
		if allows(label.Join(a, b), x) != both {
			t.Fatalf("Allows of the join of %v and %v, for %v, is %v", a, b, x, !both)
		}
		if label.Leq(a, b) && allows(b, x) && !allows(a, x) {
			t.Fatalf("%v allows %v, but the weaker %v does not", b, x, a)
		}
	}
	for _, a := range fewLabels() {
		for _, b := range fewLabels() {
			for range 5 {
				check(a, b, someReader(r, joined(a, b)))
			}
		}
	}
	for range 20000 {
		a, b := someLabel(r), someLabel(r)
		check(a, b, someReader(r, joined(a, b)))
		check(a, joined(a, b), someReader(r, joined(a, b)))
	}
}

// P2.4: what is allowed remains so at a later time, with more stories that are out, and with more approvals.
func TestAllowsIsMonotonic(t *testing.T) {
	r := rand.New(rand.NewSource(7))
	for range 20000 {
		l := someLabel(r)
		x := someReader(r, l)
		if !allows(l, x) {
			continue
		}
		more := append([]int{r.Intn(70) - 3, r.Intn(64) + 1}, x.out...)
		for _, y := range []reader{
			{x.class, x.now + 1 + r.Intn(1000), x.out, x.approvals},
			{x.class, math.MaxInt, x.out, x.approvals},
			{x.class, x.now, more, x.approvals},
			{x.class, x.now, append(x.out, more...), x.approvals},
			{x.class, x.now, x.out, x.approvals + 1},
			{x.class, x.now, x.out, math.MaxInt},
		} {
			if !allows(l, y) {
				t.Fatalf("%v allows %v, but not %v", l, x, y)
			}
		}
	}
}
