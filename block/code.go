package block

import (
	"strings"

	"copydesk/api"
	"copydesk/wire"
)

// Encode returns the encoding of l, or ErrBlock if l is not valid.
func Encode(l []api.Block) (string, api.Errno) {
	if !ValidList(l) {
		return "", api.ErrBlock
	}
	var out strings.Builder
	put(&out, wire.PutInt, len(l))
	for _, b := range l {
		putBlock(&out, b)
	}
	return out.String(), api.OK
}

// Decode returns the valid list whose encoding is s.
func Decode(s string) ([]api.Block, api.Errno) {
	r := &reader{text: s}
	l := readList(r, api.MaxBlocks, readBlock)
	switch {
	case r.err != api.OK:
		return nil, r.err
	case r.at < len(s):
		return nil, api.ErrWire
	case !ValidList(l):
		return nil, api.ErrBlock
	}
	return l, api.OK
}

// putBlock writes the fields of b to out.
func putBlock(out *strings.Builder, b api.Block) {
	put(out, wire.PutInt, b.ID, b.Kind)
	put(out, wire.PutString, b.Text)
	put(out, wire.PutInt, b.Story, b.Ref, b.Label.Until, len(b.Label.After))
	put(out, wire.PutInt, b.Label.After...)
	put(out, wire.PutInt, b.Label.Approvals, b.Label.Denied)
}

// put writes the encodings of values to out. It ignores the error of encode: every value of a valid block has an encoding.
func put[T any](out *strings.Builder, encode func(T) (string, api.Errno), values ...T) {
	for _, v := range values {
		s, _ := encode(v)
		out.WriteString(s)
	}
}

// reader reads a text from its beginning. After an error, whatever is read is zero, so that callers need not stop at once.
type reader struct {
	text string
	at   int
	err  api.Errno
}

// read returns the next value, which decode decodes.
func read[T any](r *reader, decode func(s string, at int) (T, int, api.Errno)) T {
	var value T
	if r.err == api.OK {
		value, r.at, r.err = decode(r.text, r.at)
	}
	return value
}

// readList returns the next list, of at most as many elements; its length precedes it.
func readList[T any](r *reader, most int, element func(r *reader) T) []T {
	n := read(r, wire.Int)
	// An earlier error is not overwritten: n is 0 then.
	if !within(n, 0, most) {
		r.err = api.ErrBlock
		return nil
	}
	var l []T
	for range n {
		l = append(l, element(r))
	}
	return l
}

// readBlock returns the next block. Go makes the calls in the order in which they are written, which is that of Encode.
func readBlock(r *reader) api.Block {
	return api.Block{
		ID:    readInt(r),
		Kind:  readInt(r),
		Text:  read(r, wire.String),
		Story: readInt(r),
		Ref:   readInt(r),
		Label: api.Label{
			Until:     readInt(r),
			After:     readList(r, api.MaxStories, readInt),
			Approvals: readInt(r),
			Denied:    readInt(r),
		},
	}
}

// readInt returns the next integer.
func readInt(r *reader) int {
	return read(r, wire.Int)
}
