package fact

import (
	"strings"

	"copydesk/api"
	"copydesk/block"
	"copydesk/wire"
)

// coder is one direction of the encoding: a writer writes the values that are given to it, a reader replaces them by those that it reads.
type coder interface {
	number(n *int)
	text(s *string)
	blocks(l *[]api.Block)
}

// Encode returns the encoding of f, or ErrFact if f is not valid.
func Encode(f api.Fact) (string, api.Errno) {
	if !Valid(f) {
		return "", api.ErrFact
	}
	w := &writer{}
	codeFact(w, &f)
	return w.out.String(), api.OK
}

// Decode returns the valid fact whose encoding is s.
func Decode(s string) (f api.Fact, err api.Errno) {
	// Wherever reading fails, there is only this one place to which the error must get.
	defer func() {
		if failure, failed := recover().(api.Errno); failed {
			f, err = api.Fact{}, failure
		}
	}()
	r := &reader{in: s}
	codeFact(r, &f)
	if r.at < len(s) {
		panic(api.ErrWire)
	}
	if !Valid(f) {
		panic(api.ErrFact)
	}
	return f, api.OK
}

// codeFact writes or reads the fields of f. It panics with ErrFact if the kind, which has just been read, does not exist.
func codeFact(c coder, f *api.Fact) {
	codeFields(c, f, head())
	own, known := fieldsOf(f.Kind)
	if !known {
		panic(api.ErrFact)
	}
	codeFields(c, f, own)
}

// codeFields writes or reads some fields of f.
func codeFields(c coder, f *api.Fact, l []field) {
	for _, next := range l {
		next.code(c, f)
	}
}

// codeTopics writes or reads topics.
func codeTopics(c coder, l *[]string) {
	codeList(c, l, api.MaxTopics, coder.text)
}

// codeLabel writes or reads a label.
func codeLabel(c coder, l *api.Label) {
	c.number(&l.Until)
	codeList(c, &l.After, api.MaxStories, coder.number)
	c.number(&l.Approvals)
	c.number(&l.Denied)
}

// codeList writes or reads the length of a list and its elements. It panics with ErrFact if the length, which has just been read, is not from 0 to most.
func codeList[T any](c coder, l *[]T, most int, element func(c coder, value *T)) {
	n := len(*l)
	c.number(&n)
	if !within(n, 0, most) {
		panic(api.ErrFact)
	}
	// Only a reader changes the length.
	if n != len(*l) {
		*l = make([]T, n)
	}
	for i := range *l {
		element(c, &(*l)[i])
	}
}

// writer is the coder that writes. It ignores the errors of the lower layers: every value of a valid fact has an encoding.
type writer struct {
	out strings.Builder
}

func (w *writer) number(n *int) {
	s, _ := wire.PutInt(*n)
	w.out.WriteString(s)
}

func (w *writer) text(s *string) {
	encoded, _ := wire.PutString(*s)
	w.out.WriteString(encoded)
}

func (w *writer) blocks(l *[]api.Block) {
	s, _ := block.Encode(*l)
	w.text(&s)
}

// reader is the coder that reads in from its beginning. It panics with the error if a value cannot be read.
type reader struct {
	in string
	at int
}

func (r *reader) number(n *int) {
	*n = read(r, wire.Int)
}

func (r *reader) text(s *string) {
	*s = read(r, wire.String)
}

func (r *reader) blocks(l *[]api.Block) {
	decoded, err := block.Decode(read(r, wire.String))
	if err != api.OK {
		panic(api.ErrFact)
	}
	*l = decoded
}

// read returns the next value, which decode decodes.
func read[T any](r *reader, decode func(s string, at int) (T, int, api.Errno)) T {
	value, next, err := decode(r.in, r.at)
	if err != api.OK {
		panic(err)
	}
	r.at = next
	return value
}
