package query_test

import (
	"reflect"
	"slices"
	"testing"

	"copydesk/api"
	"copydesk/query"
)

// roomy returns a copy of s with spare room in all lists that the functions read.
func roomy(s api.State) api.State {
	s.Templates = slices.Clone(s.Templates)
	s.Stories = append(make([]api.Story, 0, len(s.Stories)+2), s.Stories...)
	for i, x := range s.Stories {
		s.Stories[i].Topics = append(make([]string, 0, len(x.Topics)+2), x.Topics...)
		s.Stories[i].Editions = append(make([]api.Edition, 0, len(x.Editions)+2), x.Editions...)
	}
	return s
}

// whole returns a copy of s in which the spare room belongs to the lists.
func whole(s api.State) api.State {
	s.Templates = slices.Clone(s.Templates)
	s.Stories = slices.Clone(s.Stories[:cap(s.Stories)])
	for i, x := range s.Stories {
		s.Stories[i].Topics = slices.Clone(x.Topics[:cap(x.Topics)])
		s.Stories[i].Editions = slices.Clone(x.Editions[:cap(x.Editions)])
	}
	return s
}

// checkMemory checks that call, which operates on s, returns new memory and leaves s as it is.
func checkMemory[T any](t *testing.T, s api.State, other T, call func() []T) {
	t.Helper()
	before := whole(s)
	one, two := call(), call()
	want := slices.Clone(two)
	one = one[:cap(one)]
	for i := range one {
		one[i] = other
	}
	if !reflect.DeepEqual(append([]T{}, two...), append([]T{}, want...)) {
		t.Fatalf("two results share memory: %+v", s)
	}
	if !reflect.DeepEqual(whole(s), before) {
		t.Fatalf("the argument was changed, or a result shares memory with it: %+v", before)
	}
	if !reflect.DeepEqual(append([]T{}, call()...), append([]T{}, want...)) {
		t.Fatalf("a result depends on an earlier one: %+v", s)
	}
}

// P8.1: arguments are not changed, and results are new memory.
func TestMemory(t *testing.T) {
	m := newMaker(9)
	for range 1000 {
		s := roomy(m.state())
		topic, author, id, n := oneOf(m, topicPool), oneOf(m, authorPool), oneOf(m, idPool), oneOf(m, numberPool)
		checkMemory(t, s, -77, func() []int { return query.Latest(s, topic, n) })
		checkMemory(t, s, -77, func() []int { l, _ := query.Page(s, topic, n); return l })
		checkMemory(t, s, "scribble", func() []string { return query.Topics(s) })
		checkMemory(t, s, "scribble", func() []string { return query.Authors(s) })
		checkMemory(t, s, -77, func() []int { return query.By(s, author) })
		checkMemory(t, s, -77, func() []int { return query.Related(s, id, n) })
		checkMemory(t, s, -77, func() []int { return []int{query.Count(s, topic)} })
	}
}
