package state_test

import (
	"reflect"
	"testing"

	"copydesk/api"
	"copydesk/state"
)

// full returns a state in which every field is set.
func full() api.State {
	return api.State{
		Stories: []api.Story{{
			ID: 1, Author: "ann", Topics: []string{"rain", "vote"}, Published: 2, Retracted: true, Taken: true,
			Editions: []api.Edition{
				{Lang: "en", Rev: 1, Title: "Rain", Changed: 3, Blocks: []api.Block{
					{ID: 1, Kind: api.BQuote, Text: "own", Story: 2, Ref: 3, Label: api.Label{Until: 1, After: []int{4, 5}, Approvals: 2, Denied: 3}},
					paragraph(2, "x"),
				}},
				{Lang: "fr"},
			},
			Corrections: []api.Correction{{Lang: "en", Block: 1, Sentence: 2, Text: "x", N: 3}, {}},
		}, {ID: 5}},
		Templates: []api.Template{{Name: "front", Text: "x"}, {}},
	}
}

// places returns all numbers, strings and bools, and all lists, of v.
func places(v reflect.Value) (values, lists []reflect.Value) {
	add := func(w reflect.Value) {
		more, moreLists := places(w)
		values, lists = append(values, more...), append(lists, moreLists...)
	}
	switch v.Kind() {
	case reflect.Struct:
		for i := range v.NumField() {
			add(v.Field(i))
		}
	case reflect.Slice:
		lists = append(lists, v)
		for i := range v.Len() {
			add(v.Index(i))
		}
	default:
		values = append(values, v)
	}
	return values, lists
}

// change gives v another value.
func change(v reflect.Value) {
	switch v.Kind() {
	case reflect.Int:
		v.SetInt(v.Int() + 1)
	case reflect.String:
		v.SetString(v.String() + "x")
	case reflect.Bool:
		v.SetBool(!v.Bool())
	}
}

// differs reports whether Same tells a and b apart, in both orders, but neither of them from itself.
func differs(a, b api.State) bool {
	return !state.Same(a, b) && !state.Same(b, a) && state.Same(a, a) && state.Same(b, b)
}

// P7.1: Same compares every field, and the length and the order of every list.
func TestSame(t *testing.T) {
	if !state.Same(full(), full()) {
		t.Error("a state is not the same as a copy of it")
	}
	first := full()
	values, lists := places(reflect.ValueOf(&first).Elem())
	for i := range values {
		s := full()
		others, _ := places(reflect.ValueOf(&s).Elem())
		change(others[i])
		if !differs(full(), s) {
			t.Errorf("%+v is the same as %+v", s, full())
		}
	}
	for i, l := range lists {
		if l.Len() == 0 {
			continue
		}
		s := full()
		_, others := places(reflect.ValueOf(&s).Elem())
		others[i].Set(others[i].Slice(0, l.Len()-1))
		if !differs(full(), s) {
			t.Errorf("%+v is the same as %+v", s, full())
		}
		// The same elements in another order make another list.
		if l.Len() > 1 {
			s := full()
			_, others := places(reflect.ValueOf(&s).Elem())
			reflect.Swapper(others[i].Interface())(0, 1)
			if !differs(full(), s) {
				t.Errorf("%+v is the same as %+v", s, full())
			}
		}
	}
}

// P7.1: empty and nil lists are equal.
func TestSameEmpty(t *testing.T) {
	story := api.Story{ID: 1, Topics: []string{}, Editions: []api.Edition{}, Corrections: []api.Correction{}}
	edition := api.Edition{Blocks: []api.Block{}}
	labelled := api.Edition{Blocks: []api.Block{{Label: api.Label{After: []int{}}}}}
	for i, x := range [][2]api.State{
		{{}, {Stories: []api.Story{}, Templates: []api.Template{}}},
		{{Stories: []api.Story{{ID: 1}}}, {Stories: []api.Story{story}}},
		{{Stories: []api.Story{{Editions: []api.Edition{{}}}}}, {Stories: []api.Story{{Editions: []api.Edition{edition}}}}},
		{{Stories: []api.Story{{Editions: []api.Edition{{Blocks: []api.Block{{}}}}}}}, {Stories: []api.Story{{Editions: []api.Edition{labelled}}}}},
	} {
		if !state.Same(x[0], x[1]) || !state.Same(x[1], x[0]) {
			t.Error(i)
		}
	}
	if !differs(api.State{}, api.State{Stories: []api.Story{{}}}) || !differs(api.State{}, api.State{Templates: []api.Template{{}}}) {
		t.Error("a state with elements is the same as an empty one")
	}
}

// P7.1: Same of random states, which are seldom equal.
func TestSameRandom(t *testing.T) {
	m := newMaker(2)
	for range 20000 {
		a, b := m.state(), m.state()
		if state.Same(a, b) != sameState(a, b) || !state.Same(a, a) {
			t.Fatalf("%+v and %+v", a, b)
		}
	}
}

// P7.1: Find and Edition return the first story and edition, or zero values and false.
func TestFind(t *testing.T) {
	s := api.State{Stories: []api.Story{
		{ID: 5, Author: "a", Editions: []api.Edition{{Lang: "en", Rev: 1}, {Lang: "de", Rev: 2}, {Lang: "de", Rev: 3}}},
		{ID: 1},
		{ID: 5, Author: "b", Editions: []api.Edition{{Lang: "fr", Rev: 4}}},
		{ID: 0, Author: "zero", Editions: []api.Edition{{Rev: 9}}},
		{ID: -2, Taken: true},
	}}
	for id := -3; id <= 6; id++ {
		x, found := state.Find(s, id)
		want, exists := findIn(s, id)
		if found != exists || !sameState(api.State{Stories: []api.Story{x}}, api.State{Stories: []api.Story{want}}) {
			t.Error(id, x, found)
		}
		for _, lang := range []string{"", "en", "de", "fr", "d"} {
			e, found := state.Edition(s, id, lang)
			want, exists := editionIn(s, id, lang)
			if found != exists || e.Rev != want.Rev || e.Lang != want.Lang {
				t.Error(id, lang, e, found)
			}
		}
	}
	if x, found := state.Find(api.State{}, 0); found || !reflect.DeepEqual(x, api.Story{}) {
		t.Error(x, found)
	}
	if e, found := state.Edition(s, 5, "fr"); found || !reflect.DeepEqual(e, api.Edition{}) {
		t.Error(e, found)
	}
}

// P7.1: Find and Edition return all fields.
func TestFindAll(t *testing.T) {
	m := newMaker(3)
	for range 5000 {
		s := m.state()
		for _, id := range storyPool {
			got, found := state.Find(s, id)
			want, exists := findIn(s, id)
			if found != exists || !sameState(api.State{Stories: []api.Story{got}}, api.State{Stories: []api.Story{want}}) {
				t.Fatalf("story %d of %+v: %+v", id, s, got)
			}
			for _, lang := range langPool {
				got, found := state.Edition(s, id, lang)
				want, exists := editionIn(s, id, lang)
				if found != exists || !reflect.DeepEqual(withoutEmpty(reflect.ValueOf(got)), withoutEmpty(reflect.ValueOf(want))) {
					t.Fatalf("story %d in %q of %+v: %+v", id, lang, s, got)
				}
			}
		}
	}
}
