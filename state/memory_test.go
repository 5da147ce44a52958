package state_test

import (
	"reflect"
	"testing"

	"copydesk/api"
	"copydesk/state"
)

// grown returns a copy of v in which all lists have spare room.
func grown[T any](v T) T {
	w := reflect.New(reflect.TypeOf(v)).Elem()
	w.Set(growth(reflect.ValueOf(v)))
	return w.Interface().(T)
}

// growth is grown for any value.
func growth(v reflect.Value) reflect.Value {
	w := reflect.New(v.Type()).Elem()
	w.Set(v)
	switch v.Kind() {
	case reflect.Struct:
		for i := range v.NumField() {
			w.Field(i).Set(growth(v.Field(i)))
		}
	case reflect.Slice:
		w.Set(reflect.MakeSlice(v.Type(), v.Len(), v.Len()+3))
		for i := range v.Len() {
			w.Index(i).Set(growth(v.Index(i)))
		}
	}
	return w
}

// scribble overwrites all memory to which v refers, including the spare room of lists.
func scribble(v reflect.Value) {
	switch v.Kind() {
	case reflect.Struct:
		for i := range v.NumField() {
			scribble(v.Field(i))
		}
	case reflect.Slice:
		v = v.Slice(0, v.Cap())
		for i := range v.Len() {
			scribble(v.Index(i))
			switch v.Index(i).Kind() {
			case reflect.Int, reflect.String:
				change(v.Index(i))
			default:
				v.Index(i).SetZero()
			}
		}
	}
}

// room returns the spare room of all lists of v, in which there is nothing.
func room(v reflect.Value) (left []reflect.Value) {
	_, lists := places(v)
	for _, l := range lists {
		for i := l.Len(); i < l.Cap(); i++ {
			left = append(left, l.Slice(0, l.Cap()).Index(i))
		}
	}
	return left
}

// isUntouched reports whether v is what it was, and the spare room of its lists is still empty.
func isUntouched(v, before any) bool {
	for _, w := range room(reflect.ValueOf(v)) {
		if !w.IsZero() {
			return false
		}
	}
	return reflect.DeepEqual(withoutEmpty(reflect.ValueOf(v)), withoutEmpty(reflect.ValueOf(before)))
}

// checkApart checks that two results of the same call share no memory with each other, that no two lists of a result do, and that the arguments stay as they are when a result is overwritten.
func checkApart[A, R any](t *testing.T, argument A, call func(a A) R) {
	t.Helper()
	a := grown(argument)
	one, two := call(a), call(a)
	want := grown(two)
	_, lists := places(reflect.ValueOf(&one).Elem())
	for i, l := range lists {
		for _, other := range lists[:i] {
			if l.Cap() > 0 && other.Cap() > 0 && l.Pointer() == other.Pointer() {
				t.Fatalf("two lists of %+v share memory", one)
			}
		}
	}
	scribble(reflect.ValueOf(one))
	if !isUntouched(a, argument) || !reflect.DeepEqual(withoutEmpty(reflect.ValueOf(two)), withoutEmpty(reflect.ValueOf(want))) {
		t.Fatalf("a result shares memory with the argument or with another result, or the argument was changed: %+v", argument)
	}
	scribble(reflect.ValueOf(a))
	if !reflect.DeepEqual(withoutEmpty(reflect.ValueOf(two)), withoutEmpty(reflect.ValueOf(want))) {
		t.Fatalf("a result changes with the argument: %+v", argument)
	}
}

// P7.1: results share no memory with arguments, and arguments are not changed.
func TestMemory(t *testing.T) {
	m := newMaker(12)
	for range 1500 {
		l, s := m.facts(16), m.state()
		id, lang, b := oneOf(m, storyPool), oneOf(m, langPool), m.block()
		checkApart(t, l, state.Fold)
		checkApart(t, s, func(s api.State) api.Story {
			x, _ := state.Find(s, id)
			return x
		})
		checkApart(t, s, func(s api.State) api.Edition {
			e, _ := state.Edition(s, id, lang)
			return e
		})
		checkApart(t, s, func(s api.State) string { return state.Resolve(s, lang, b) })
		checkApart(t, s, func(s api.State) string {
			text, _ := state.Text(s, id, lang)
			return text
		})
		checkApart(t, s, func(s api.State) bool { return state.Same(s, s) })
	}
}
