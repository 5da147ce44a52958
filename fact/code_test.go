package fact_test

import (
	"math/rand"
	"slices"
	"strings"
	"testing"

	"copydesk/api"
	"copydesk/fact"
)

// checkDecode checks that Decode returns the error, and without one the fact whose encoding s is.
func checkDecode(t *testing.T, s string, want api.Errno) {
	t.Helper()
	f, err := fact.Decode(s)
	g, e := decoded(s)
	if err != want || !fact.Same(f, g) {
		t.Errorf("Decode(%q) = %v, error %d; want %v, error %d", s, f, err, g, want)
	}
	if e != want {
		t.Errorf("the reference gives error %d for %q, want %d", e, s, want)
	}
	if err != api.OK {
		return
	}
	if again, err := fact.Encode(f); again != s || err != api.OK || !fact.Valid(f) {
		t.Errorf("Decode(%q) = %v, but its encoding is %q, error %d", s, f, again, err)
	}
}

// P5.2: the bytes of an encoding of each kind, written out.
func TestEncodeGivesTheBytes(t *testing.T) {
	embargo := "\xf0\x01" + "\x04\x04\x0a" + "\x04" + "\x12"
	blocks := "\x04" + "\x02\x04\x14It rained." + "\x00\x00" + "\x00\x00\x00\x00" + "\x04\x06\x04so" + "\x06\x12" + embargo
	for i, want := range []string{
		"\x06\xc8\x01\x02" + "\x0e" + "\x04en" + "\x06" + "\x04" + "\x08Rain" + "\x06ann" + "\x04\x08city\x08rain" + "\x44" + blocks + embargo,
		"\x08\xca\x01\x04" + "\x10" + "\x04",
		"\x0a\xcc\x01\x06" + "\x12" + embargo,
		"\x0c\xce\x01\x08" + "\x14" + "\x04fr" + "\xd8\x04" + "\x08" + "\x06No.",
		"\x0e\xd0\x01\x0a" + "\x16" + "\x0cWrong.",
		"\x10\xd2\x01\x0c" + "\x18",
		"\x12\xd4\x01\x0e" + "\x0afront" + "\x06a\nb",
		"\x14\xd6\x01\x10" + "\x06" + "\x02" + "\x90\x4e",
		"\x16\xd8\x01\x12" + "\x08" + "\xe0\x5d",
		"\x18\xda\x01\x14" + "\x1a",
	} {
		f := examples()[i]
		if s, err := fact.Encode(f); s != want || err != api.OK {
			t.Errorf("Encode(%v) = %q, error %d; want %q", f, s, err, want)
		}
		checkDecode(t, want, api.OK)
	}
}

// P5.2: the examples of the chapter.
func TestCodeOfTheExamples(t *testing.T) {
	f := api.Fact{N: 2, Time: 70, Kind: api.FTakedown, Story: 5}
	if s, err := fact.Encode(f); s != "\x04\x8c\x01\x0c\x0a" || err != api.OK {
		t.Errorf("Encode(%v) = %q, error %d", f, s, err)
	}
	if g, err := fact.Decode("\x04\x8c\x01\x0c\x0a"); !fact.Same(f, g) || err != api.OK {
		t.Errorf("Decode = %v, error %d; want %v", g, err, f)
	}
	checkDecode(t, "\x04\x8c\x01\x0c\x0a\x00", api.ErrWire)
	checkDecode(t, "\x04\x8c\x01\x16\x0a", api.ErrFact)
}

// P5.2, P5.3: Encode writes what the chapter defines, and Decode returns the same fact.
func TestEncodeAndDecodeAreInverse(t *testing.T) {
	r := rand.New(rand.NewSource(2))
	l := append(examples(), longest())
	for range 20000 {
		l = append(l, someFact(r))
	}
	for _, f := range l {
		s, err := fact.Encode(f)
		if s != reference(f) || err != api.OK {
			t.Fatalf("Encode(%v) = %q, error %d; want %q", f, s, err, reference(f))
		}
		if g, err := fact.Decode(s); !fact.Same(f, g) || err != api.OK {
			t.Fatalf("Decode(%q) = %v, error %d; want %v", s, g, err, f)
		}
	}
}

// P5.2: which of several errors Decode returns, in the fields that all kinds use.
func TestDecodeErrorsOfTheHead(t *testing.T) {
	for _, c := range []struct {
		s   string
		err api.Errno
	}{
		{"", api.ErrWire}, {"\x80", api.ErrWire}, {"\x80\x00", api.ErrWire}, {ints(1), api.ErrWire}, {ints(1, 2), api.ErrWire}, {ints(1, 2, 6), api.ErrWire},
		{ints(1, 2) + "\x8c\x00" + ints(5), api.ErrWire}, {ints(1) + "\x8c\x00" + ints(11, 5), api.ErrWire},
		// An unknown kind is refused as soon as it is read, whatever follows.
		{ints(1, 2, 0), api.ErrFact}, {ints(1, 2, 11), api.ErrFact}, {ints(1, 2, -1), api.ErrFact}, {ints(1, 2, 11) + "\x80\x00", api.ErrFact},
		{ints(1, 2, 1<<32+6, 5), api.ErrFact}, {ints(1, 2, api.MaxInt, 5), api.ErrFact}, {ints(1, 2, -api.MaxInt, 5), api.ErrFact}, {ints(501, -1, 11), api.ErrFact},
		// All other numbers are judged at the end, after the bytes that are left over.
		{ints(501, 2, 6), api.ErrWire}, {ints(501, 2, 6, 5), api.ErrFact}, {ints(501, 2, 6, 5, 0), api.ErrWire}, {ints(-1, 2, 6, 5), api.ErrFact},
		{ints(1, -1, 6, 5), api.ErrFact}, {ints(1, -1, 6) + "\x80", api.ErrWire}, {ints(1, 1000000001, 6, 5), api.ErrFact}, {ints(1, 1000000001, 6, 5) + "x", api.ErrWire},
		{ints(api.MaxInt, -api.MaxInt, 6, api.MaxInt), api.ErrFact}, {ints(1, 2, 6, 0), api.ErrFact}, {ints(1, 2, 6, 65), api.ErrFact}, {ints(1, 2, 6, 65) + "x", api.ErrWire},
		{ints(0, 0, 6, 1), api.OK}, {ints(500, 1000000000, 10, 64), api.OK}, {ints(0, 0, 6, 1, 1), api.ErrWire}, {ints(0, 0, 10, 1) + "\x80", api.ErrWire},
	} {
		checkDecode(t, c.s, c.err)
	}
}

// P5.2: which of several errors Decode returns, in the strings and lists.
func TestDecodeErrorsOfTheFields(t *testing.T) {
	start := ints(1, 2, 1, 7) + str("en") + ints(3, 2) + str("Rain") + str("ann")
	one := str(ints(1, 1, 1) + str("x") + ints(0, 0, 0, 0, 0, 0))
	none, open := str(ints(0)), ints(0, 0, 0, 0)
	for _, c := range []struct {
		s   string
		err api.Errno
	}{
		{start + ints(0) + none + open, api.OK}, {start + ints(1) + str("a") + one + open, api.OK},
		// The number of topics, and what the topics are.
		{start, api.ErrWire}, {start + ints(-1), api.ErrFact}, {start + ints(5), api.ErrFact}, {start + ints(5) + "\x80\x00", api.ErrFact}, {start + ints(4), api.ErrWire},
		{start + ints(1<<32) + none + open, api.ErrFact}, {start + ints(api.MaxInt), api.ErrFact}, {start + ints(-api.MaxInt), api.ErrFact},
		{start + ints(4) + str("a") + str("b") + str("c") + str("d") + none + open, api.OK}, {start + ints(2) + str("b") + str("a") + none + open, api.ErrFact},
		{start + ints(2) + str("b") + str("a") + none + open + "x", api.ErrWire}, {start + ints(2) + str("b") + str("a") + none + open[:3], api.ErrWire},
		{start + ints(1) + "\x04a", api.ErrWire}, {start + ints(1) + str("") + none + open, api.ErrFact}, {start + ints(1) + str("\n"), api.ErrWire},
		// Whatever is wrong with the blocks: ErrFact, unless their string cannot be read.
		{start + ints(0), api.ErrWire}, {start + ints(0) + ints(-1), api.ErrWire}, {start + ints(0) + ints(65537) + strings.Repeat("x", 65537), api.ErrWire}, {start + ints(0) + one[:5], api.ErrWire},
		{start + ints(0) + str(""), api.ErrFact}, {start + ints(0) + str("\x80"), api.ErrFact}, {start + ints(0) + str(ints(25)), api.ErrFact}, {start + ints(0) + str(ints(0, 0)) + "\x80\x00", api.ErrFact},
		{start + ints(0) + str(ints(1, 1, 1)+str("")+ints(0, 0, 0, 0, 0, 0)), api.ErrFact}, {start + ints(0) + str(strings.Repeat("x", 65536)), api.ErrFact}, {start + ints(0) + one + ints(0, 65), api.ErrFact},
		// The number of elements of After, and what the label is.
		{start + ints(0) + none + ints(0, -1), api.ErrFact}, {start + ints(0) + none + ints(0, 65), api.ErrFact}, {start + ints(0) + none + ints(0, 64), api.ErrWire}, {start + ints(0) + none + ints(0, api.MaxInt), api.ErrFact},
		{start + ints(0) + none + ints(0, 64) + ints(allStories()...) + ints(0, 0), api.OK}, {start + ints(0) + none + ints(0, 2, 5, 3, 0, 0), api.ErrFact},
		{start + ints(0) + none + ints(0, 2, 5, 3, 0), api.ErrWire}, {start + ints(0) + none + ints(-1, 65), api.ErrFact}, {start + ints(0) + none + ints(-1, 0, 0), api.ErrWire}, {start + ints(0) + none + open + "\x00", api.ErrWire},
		{ints(1, 2, 3, 7, 0, 65), api.ErrFact}, {ints(1, 2, 3, 65, -1, -1) + "\x80", api.ErrFact}, {ints(1, 2, 3, 7, 0, 64), api.ErrWire}, {ints(1, 2, 3, 7, 0, 1, 65, 0, 0), api.ErrFact}, {ints(1, 2, 3, 7, 0, 1, 64, 0, 0), api.OK},
		// Strings are judged at the end.
		{ints(1, 2, 5, 7) + str(""), api.ErrFact}, {ints(1, 2, 5, 7) + str("") + "x", api.ErrWire}, {ints(1, 2, 5, 7) + "\x80\x00", api.ErrWire}, {ints(1, 2, 5, 7) + "\x04x", api.ErrWire}, {ints(1, 2, 5, 7) + ints(-1), api.ErrWire},
		{ints(1, 2, 5, 7) + str(strings.Repeat("x", 300)), api.OK}, {ints(1, 2, 5, 7) + str(strings.Repeat("x", 301)), api.ErrFact}, {ints(1, 2, 5, 7) + str(strings.Repeat("x", 65536)), api.ErrFact}, {ints(1, 2, 5, 7) + str(strings.Repeat("x", 65537)), api.ErrWire},
		{ints(1, 2, 7) + str("front") + str(""), api.OK}, {ints(1, 2, 7) + str("") + str("a"), api.ErrFact}, {ints(1, 2, 7) + str("Front") + "\x80", api.ErrWire}, {ints(1, 2, 7) + str("front") + str("\t"), api.ErrFact},
		{ints(1, 2, 1, 7) + str("en") + ints(3, 3) + str("Rain") + str("ann") + ints(0) + none + open, api.ErrFact},
	} {
		checkDecode(t, c.s, c.err)
	}
}

// P5.3: neither a proper prefix of an encoding nor an encoding with additional bytes is accepted.
func TestDecodeTakesTheWholeString(t *testing.T) {
	r := rand.New(rand.NewSource(3))
	l := examples()
	for range 300 {
		l = append(l, someFact(r))
	}
	for _, f := range l {
		s := reference(f)
		checkDecode(t, s, api.OK)
		for i := range len(s) {
			checkDecode(t, s[:i], api.ErrWire)
		}
		for _, more := range []string{"\x00", "\x80", "x", "\xff\xff", s} {
			checkDecode(t, s+more, api.ErrWire)
		}
	}
}

// P5.2, P5.3: encodings with changed, removed and inserted bytes give the error that the chapter defines, or the fact whose encoding they are.
func TestDecodeOfDamagedEncodings(t *testing.T) {
	r := rand.New(rand.NewSource(4))
	codes := map[api.Errno]int{}
	for range 100000 {
		b := []byte(reference(someFact(r)))
		for range 1 + r.Intn(2) {
			i := r.Intn(len(b))
			switch r.Intn(4) {
			case 0:
				b[i] ^= 1 << r.Intn(8)
			case 1:
				b[i] = byte(r.Intn(12))
			case 2:
				// At least one byte must be left for the next change.
				b = slices.Delete(b, i, min(i+1, len(b)-1))
			case 3:
				b = slices.Insert(b, i, byte(r.Intn(256)))
			}
		}
		s := string(b)
		_, err := decoded(s)
		checkDecode(t, s, err)
		codes[err]++
	}
	if codes[api.OK] < 100 || codes[api.ErrWire] < 100 || codes[api.ErrFact] < 100 {
		t.Errorf("the errors are too rare: %v", codes)
	}
}

// P5.2, P5.3: all strings of few bytes that are likely to be part of an encoding, of each kind.
func TestDecodeOfShortStrings(t *testing.T) {
	bytes := "\x00\x01\x02\x04a\x80"
	for kind := 0; kind <= 11; kind++ {
		start := ints(1, 2, kind)
		for n := range 6 * 6 * 6 * 6 * 6 {
			s := start
			for rest := n; rest > 0; rest /= 6 {
				s += bytes[rest%6 : rest%6+1]
			}
			_, err := decoded(s)
			checkDecode(t, s, err)
		}
	}
}

// P5.3: valid facts are the same if and only if their encodings are equal.
func TestEncodeIsInjective(t *testing.T) {
	r := rand.New(rand.NewSource(5))
	var l []api.Fact
	for _, f := range examples() {
		l = append(l, f)
		for _, change := range changes() {
			g := roomy(f)
			change(&g)
			if fact.Valid(g) {
				l = append(l, g)
			}
		}
	}
	for range 500 {
		f := someFact(r)
		l = append(l, f, roomy(f))
	}
	codes := make([]string, len(l))
	for i, f := range l {
		codes[i], _ = fact.Encode(f)
	}
	for i, f := range l {
		for k, g := range l {
			if (codes[i] == codes[k]) != fact.Same(f, g) {
				t.Fatalf("Same(%v, %v) = %v, but the encodings are %q and %q", f, g, fact.Same(f, g), codes[i], codes[k])
			}
		}
	}
}

// P5.2: what Decode returns is new memory, and no two lists in it share any.
func TestDecodeReturnsNewMemory(t *testing.T) {
	for _, f := range append(examples(), longest()) {
		s := reference(f)
		one, _ := fact.Decode(s)
		two, _ := fact.Decode(s)
		scribble(one)
		if !fact.Same(two, f) {
			t.Fatalf("two results share memory: %v, want %v", two, f)
		}
		checkApart(t, two)
	}
}

// checkApart checks that no two lists of f share memory. It overwrites the elements of each list in turn.
func checkApart(t *testing.T, f api.Fact) {
	t.Helper()
	lists := []*[]int{&f.Label.After}
	for i := range f.Blocks {
		lists = append(lists, &f.Blocks[i].Label.After)
	}
	for _, l := range lists {
		want := roomy(f)
		old := slices.Clone(*l)
		all := (*l)[:cap(*l)]
		for i := range all {
			all[i] = -77
		}
		*l = old
		if !fact.Same(f, want) {
			t.Fatalf("two lists of %v share memory", want)
		}
	}
}
