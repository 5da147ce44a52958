package block_test

import (
	"encoding/binary"
	"math/rand"
	"slices"
	"strings"
	"testing"

	"copydesk/api"
	"copydesk/block"
	"copydesk/wire"
)

// ints returns the encodings of numbers, one after the other. The standard library's zigzag varint is the same encoding.
func ints(l ...int) string {
	var b []byte
	for _, n := range l {
		b = binary.AppendVarint(b, int64(n))
	}
	return string(b)
}

// str returns the encoding of a string.
func str(s string) string {
	return ints(len(s)) + s
}

// reference encodes a list as the chapter defines it.
func reference(l []api.Block) string {
	s := ints(len(l))
	for _, b := range l {
		s += ints(b.ID, b.Kind) + str(b.Text) + ints(b.Story, b.Ref, b.Label.Until, len(b.Label.After)) +
			ints(b.Label.After...) + ints(b.Label.Approvals, b.Label.Denied)
	}
	return s
}

// firstError returns the error of Decode as the chapter defines it.
func firstError(s string) api.Errno {
	var numbers [6]int
	var l []api.Block
	blocks, at, err := wire.Int(s, 0)
	if err != api.OK {
		return api.ErrWire
	}
	if blocks < 0 || blocks > 24 {
		return api.ErrBlock
	}
	for range blocks {
		var b api.Block
		for i := range numbers {
			if i == 2 {
				if b.Text, at, err = wire.String(s, at); err != api.OK {
					return api.ErrWire
				}
			}
			if numbers[i], at, err = wire.Int(s, at); err != api.OK {
				return api.ErrWire
			}
		}
		if numbers[5] < 0 || numbers[5] > 64 {
			return api.ErrBlock
		}
		after := make([]int, numbers[5]+2)
		for i := range after {
			if after[i], at, err = wire.Int(s, at); err != api.OK {
				return api.ErrWire
			}
		}
		b.ID, b.Kind, b.Story, b.Ref = numbers[0], numbers[1], numbers[2], numbers[3]
		b.Label = api.Label{Until: numbers[4], After: after[:numbers[5]], Approvals: after[numbers[5]], Denied: after[numbers[5]+1]}
		l = append(l, b)
	}
	if at < len(s) {
		return api.ErrWire
	}
	if !block.ValidList(l) {
		return api.ErrBlock
	}
	return api.OK
}

// checkDecode checks that Decode returns the error, and without one the list whose encoding s is.
func checkDecode(t *testing.T, s string, want api.Errno) {
	t.Helper()
	l, err := block.Decode(s)
	if err != want || err != api.OK && len(l) > 0 {
		t.Errorf("Decode(%q) = %v, error %d; want error %d", s, l, err, want)
	}
	if err != api.OK {
		return
	}
	if again, err := block.Encode(l); again != s || err != api.OK || !block.ValidList(l) {
		t.Errorf("Decode(%q) = %v, but its encoding is %q, error %d", s, l, again, err)
	}
}

// longest returns the list with the longest encoding.
func longest() []api.Block {
	l := headings(24)
	for i := range l {
		l[i] = api.Block{ID: 1000 - i, Kind: api.BQuote, Text: strings.Repeat("~", 300), Story: 64, Ref: 1000}
		l[i].Label = api.Label{Until: api.MaxTime, After: allStories(), Approvals: 5, Denied: 15}
	}
	return l
}

// P3.1: the bytes of an encoding, written out.
func TestEncodeGivesTheBytes(t *testing.T) {
	l := []api.Block{{ID: 300, Kind: api.BQuote, Text: "Hi", Story: 2, Ref: 9, Label: api.Label{Until: 70, After: []int{3, 5}, Approvals: 1, Denied: 8}}}
	want := "\x02" + "\xd8\x04" + "\x06" + "\x04Hi" + "\x04" + "\x12" + "\x8c\x01" + "\x04\x06\x0a" + "\x02" + "\x10"
	if s, err := block.Encode(l); s != want || err != api.OK {
		t.Errorf("Encode(%v) = %q, error %d; want %q", l, s, err, want)
	}
	for _, l := range [][]api.Block{nil, {}} {
		if s, err := block.Encode(l); s != "\x00" || err != api.OK {
			t.Errorf("Encode of the empty list = %q, error %d", s, err)
		}
	}
}

// P3.1, P3.2: Encode writes what the chapter defines, and Decode returns the same list.
func TestEncodeAndDecodeAreInverse(t *testing.T) {
	r := rand.New(rand.NewSource(2))
	lists := [][]api.Block{nil, examples(), headings(1), headings(24), longest()}
	for range 1000 {
		lists = append(lists, someList(r))
	}
	for _, l := range lists {
		s, err := block.Encode(l)
		if s != reference(l) || err != api.OK {
			t.Fatalf("Encode(%v) = %q, error %d; want %q", l, s, err, reference(l))
		}
		if again, err := block.Decode(s); !block.SameList(again, l) || err != api.OK {
			t.Fatalf("Decode(%q) = %v, error %d; want %v", s, again, err, l)
		}
	}
}

// P3.1: a list that is not valid has no encoding.
func TestEncodeRefusesInvalidLists(t *testing.T) {
	for _, l := range [][]api.Block{
		headings(25), {{}}, append(headings(2), headings(1)...), append(headings(3), api.Block{}),
		{{ID: 1, Kind: api.BQuote, Text: strings.Repeat("x", api.MaxString+1), Story: 1, Ref: 1}},
		{{ID: 1 << 62, Kind: api.BHeading, Text: "x"}},
	} {
		if s, err := block.Encode(l); s != "" || err != api.ErrBlock {
			t.Errorf("Encode of %d blocks gives %d bytes, error %d; want ErrBlock", len(l), len(s), err)
		}
	}
}

// P3.1: the error that Decode names first, for strings in which several errors apply.
func TestDecodeReturnsTheFirstError(t *testing.T) {
	start, rest := ints(1, 1, api.BHeading)+str("x"), ints(0, 0, 0, 0, 0, 0)
	for _, c := range []struct {
		s   string
		err api.Errno
	}{
		{ints(0), api.OK}, {start + rest, api.OK},
		// The number of blocks.
		{"", api.ErrWire}, {"\x80", api.ErrWire}, {"\x80\x00", api.ErrWire},
		{ints(-1), api.ErrBlock}, {ints(25), api.ErrBlock}, {ints(25) + "\x80\x00", api.ErrBlock}, {ints(1<<32 + 1), api.ErrBlock},
		{ints(api.MaxInt), api.ErrBlock}, {ints(-api.MaxInt) + start, api.ErrBlock}, {ints(24), api.ErrWire}, {ints(1), api.ErrWire},
		// What is read is not judged before the rest has been read.
		{ints(1, 0, 9, -5), api.ErrWire}, {ints(1, 0, 9) + str("\n"), api.ErrWire}, {ints(1, 0, 9) + str("") + rest, api.ErrBlock},
		{ints(1, 1, api.BHeading) + str(strings.Repeat("x", 301)) + rest[:5], api.ErrWire},
		{ints(1, 1, api.BHeading) + str(strings.Repeat("x", 301)) + rest, api.ErrBlock},
		{ints(1, 1, api.BHeading) + str(strings.Repeat("x", api.MaxString)) + rest, api.ErrBlock},
		{ints(1, 1, api.BHeading) + str(strings.Repeat("x", api.MaxString+1)) + rest, api.ErrWire},
		{ints(1, api.MaxInt, -api.MaxInt) + str("\x00") + ints(-1, -1, -1, 0, -1, -1), api.ErrBlock},
		// The number of elements of After.
		{start + ints(0, 0, 0, -1), api.ErrBlock}, {start + ints(0, 0, 0, 65), api.ErrBlock}, {start + ints(0, 0, 0, 64), api.ErrWire},
		{start + ints(0, 0, 0, 65) + "\x80\x00", api.ErrBlock}, {start + ints(0, 0, 0, api.MaxInt), api.ErrBlock},
		{ints(1, 0, 9) + str("") + ints(0, 0, 0, 65), api.ErrBlock}, {ints(2, 0, 9) + str("") + ints(9, 9, 0, 0, 0, 99), api.ErrWire},
		{start + ints(0, 0, 0, 64) + ints(allStories()...) + ints(0, 0), api.OK},
		{start + ints(0, 0, 0, 2, 5, 3, 0, 0), api.ErrBlock}, {start + ints(0, 0, 0, 2, 5, 3, 0), api.ErrWire},
		// Bytes that are left over come before a list that is not valid.
		{ints(0, 0), api.ErrWire}, {ints(0) + "x", api.ErrWire}, {start + rest + "\x00", api.ErrWire},
		{ints(1, 0, 9) + str("") + rest + "\x00", api.ErrWire},
		{ints(2) + start[1:] + rest + start[1:] + rest, api.ErrBlock}, {ints(2) + start[1:] + rest + start[1:] + rest + "x", api.ErrWire},
	} {
		checkDecode(t, c.s, c.err)
		if c.err != firstError(c.s) {
			t.Errorf("%q: the reference gives error %d", c.s, firstError(c.s))
		}
	}
}

// P3.2: neither a proper prefix of an encoding nor an encoding with additional bytes is accepted.
func TestDecodeTakesTheWholeString(t *testing.T) {
	r := rand.New(rand.NewSource(3))
	lists := [][]api.Block{nil, examples(), headings(24)}
	for range 30 {
		lists = append(lists, someList(r))
	}
	for _, l := range lists {
		s := reference(l)
		checkDecode(t, s, api.OK)
		for i := range len(s) {
			checkDecode(t, s[:i], api.ErrWire)
		}
		for _, more := range []string{"\x00", "\x80", "x", "\xff\xff", s} {
			checkDecode(t, s+more, api.ErrWire)
		}
	}
}

// P3.1, P3.2: encodings with changed, removed and inserted bytes give the error that the chapter defines, or the list whose encoding they are.
func TestDecodeOfDamagedEncodings(t *testing.T) {
	r := rand.New(rand.NewSource(4))
	codes := map[api.Errno]int{}
	for range 50000 {
		l := someList(r)
		b := []byte(reference(l[:min(len(l), 1+r.Intn(2))]))
		for range 1 + r.Intn(2) {
			i := r.Intn(len(b))
			switch r.Intn(4) {
			case 0:
				b[i] ^= 1 << r.Intn(8)
			case 1:
				b[i] = byte(r.Intn(12))
			case 2:
				// At least one byte must be left for the next change.
				b = slices.Delete(b, i, min(i+1, len(b)-1))
			case 3:
				b = slices.Insert(b, i, byte(r.Intn(256)))
			}
		}
		s := string(b)
		checkDecode(t, s, firstError(s))
		codes[firstError(s)]++
	}
	if codes[api.OK] < 100 || codes[api.ErrWire] < 100 || codes[api.ErrBlock] < 100 {
		t.Errorf("the errors are too rare: %v", codes)
	}
}

// P3.2: different lists have different encodings.
func TestEncodeIsInjective(t *testing.T) {
	r := rand.New(rand.NewSource(5))
	seen := map[string][]api.Block{}
	for range 5000 {
		l := someList(r)
		l = l[:min(len(l), r.Intn(3))]
		s, _ := block.Encode(l)
		if other, ok := seen[s]; ok && !block.SameList(l, other) {
			t.Fatalf("%v and %v have the same encoding", l, other)
		}
		seen[s] = l
	}
}

// scribble overwrites all memory of a list, including the spare room.
func scribble(l []api.Block) {
	for i := range l {
		after := l[i].Label.After[:cap(l[i].Label.After)]
		for k := range after {
			after[k] = -77
		}
	}
	all := l[:cap(l)]
	for i := range all {
		all[i] = api.Block{ID: -77}
	}
}

// P3.1: what Decode returns is new memory, and no two lists in it share any.
func TestDecodeReturnsNewMemory(t *testing.T) {
	r := rand.New(rand.NewSource(6))
	for range 300 {
		l := someList(r)
		s := reference(l)
		one, _ := block.Decode(s)
		two, _ := block.Decode(s)
		scribble(one)
		if !block.SameList(two, l) {
			t.Fatalf("two results share memory: %v, want %v", two, l)
		}
		for i := range two {
			scribble(two[i : i+1 : i+1])
			two[i] = l[i]
			if !block.SameList(two, l) {
				t.Fatalf("block %d of a result shares memory with another one", i)
			}
		}
	}
}

// P3.1: no function changes its arguments or writes to their spare room.
func TestArgumentsAreNotChanged(t *testing.T) {
	r := rand.New(rand.NewSource(7))
	for range 300 {
		l := someList(r)
		roomy := append(make([]api.Block, 0, 60), l...)
		for i := range roomy {
			roomy[i].Label.After = append(make([]int, 0, 80), l[i].Label.After...)
		}
		block.ValidList(roomy)
		block.SameList(roomy, roomy)
		block.Encode(roomy)
		block.Plain(roomy)
		if !block.SameList(roomy, l) || !block.SameList(roomy[:60][len(l):], make([]api.Block, 60-len(l))) {
			t.Fatalf("%v has become %v", l, roomy[:60])
		}
		for _, b := range roomy {
			for _, n := range b.Label.After[len(b.Label.After):80] {
				if n != 0 {
					t.Fatalf("the spare room of %v has changed", b.Label.After)
				}
			}
		}
	}
}
