package wire_test

import (
	"encoding/binary"
	"math"
	"math/rand"
	"strings"
	"testing"

	"copydesk/api"
	"copydesk/wire"
)

// reference is an independent encoder: the standard library's zigzag varint is the same encoding.
func reference(n int) string {
	return string(binary.AppendVarint(nil, int64(n)))
}

// edges returns the encodable integers around every power of two, where the number of groups changes.
func edges() []int {
	var l []int
	for bit := range 62 {
		for d := -2; d <= 2; d++ {
			l = append(l, 1<<bit+d, -(1<<bit)+d)
		}
	}
	return append(l, api.MaxInt, api.MaxInt-1, -api.MaxInt, -api.MaxInt+1)
}

// someInt returns an encodable integer of any length.
func someInt(r *rand.Rand) int {
	n := int(r.Int63n(api.MaxInt)+1) >> r.Intn(62)
	if r.Intn(2) == 0 {
		return -n
	}
	return n
}

func someString(r *rand.Rand, most int) string {
	b := make([]byte, r.Intn(most+1))
	r.Read(b)
	return string(b)
}

func mustPutInt(t *testing.T, n int) string {
	t.Helper()
	s, err := wire.PutInt(n)
	if err != api.OK {
		t.Fatalf("PutInt(%d): error %d", n, err)
	}
	return s
}

func mustPutString(t *testing.T, s string) string {
	t.Helper()
	e, err := wire.PutString(s)
	if err != api.OK {
		t.Fatalf("PutString of %d bytes: error %d", len(s), err)
	}
	return e
}

func checkInt(t *testing.T, s string, at, want, next int, err api.Errno) {
	t.Helper()
	if n, to, e := wire.Int(s, at); n != want || to != next || e != err {
		t.Errorf("Int(%.24q, %d) = %d, %d, %d; want %d, %d, %d", s, at, n, to, e, want, next, err)
	}
}

func checkString(t *testing.T, s string, at int, want string, next int, err api.Errno) {
	t.Helper()
	if u, to, e := wire.String(s, at); u != want || to != next || e != err {
		t.Errorf("String(%.24q, %d) = %.24q, %d, %d; want %.24q, %d, %d", s, at, u, to, e, want, next, err)
	}
}

// P1.1: the examples of the chapter, and the first and last integers of each length.
func TestPutIntGivesTheBytes(t *testing.T) {
	for _, c := range []struct {
		n int
		s string
	}{
		{0, "\x00"}, {1, "\x02"}, {-1, "\x01"}, {63, "\x7e"}, {-64, "\x7f"},
		{64, "\x80\x01"}, {-65, "\x81\x01"}, {150, "\xac\x02"}, {8191, "\xfe\x7f"}, {-8192, "\xff\x7f"},
		{8192, "\x80\x80\x01"}, {-8193, "\x81\x80\x01"},
		{api.MaxInt, "\xfe\xff\xff\xff\xff\xff\xff\xff\x7f"},
		{-api.MaxInt, "\xfd\xff\xff\xff\xff\xff\xff\xff\x7f"},
	} {
		if s, err := wire.PutInt(c.n); s != c.s || err != api.OK {
			t.Errorf("PutInt(%d) = %x, %d; want %x", c.n, s, err, c.s)
		}
		checkInt(t, c.s, 0, c.n, len(c.s), api.OK)
	}
}

// P1.1
func TestPutIntAgreesWithTheReference(t *testing.T) {
	r := rand.New(rand.NewSource(1))
	l := edges()
	for range 20000 {
		l = append(l, someInt(r))
	}
	for _, n := range l {
		if s, err := wire.PutInt(n); s != reference(n) || err != api.OK {
			t.Errorf("PutInt(%d) = %x, %d; want %x", n, s, err, reference(n))
		}
	}
}

// P1.1
func TestPutIntRefusesLargeIntegers(t *testing.T) {
	for _, n := range []int{api.MaxInt + 1, -api.MaxInt - 1, api.MaxInt + 2, -api.MaxInt - 2, math.MaxInt, math.MinInt} {
		if s, err := wire.PutInt(n); s != "" || err != api.ErrWire {
			t.Errorf("PutInt(%d) = %x, %d; want ErrWire", n, s, err)
		}
	}
}

// P1.1, P1.2: what is no offset gives ErrArg, whatever the string; the end of the string is an offset.
func TestOffsets(t *testing.T) {
	for _, s := range []string{"", "\x00", "\x80", "\x02a", "\x80\x00"} {
		for _, at := range []int{-1, len(s) + 1, math.MinInt, math.MaxInt, api.MaxInt} {
			checkInt(t, s, at, 0, 0, api.ErrArg)
			checkString(t, s, at, "", 0, api.ErrArg)
		}
		checkInt(t, s, len(s), 0, 0, api.ErrWire)
		checkString(t, s, len(s), "", 0, api.ErrWire)
	}
}

// P1.1: no encoding begins at the offset.
func TestIntRefusesWhatIsNoEncoding(t *testing.T) {
	full := strings.Repeat("\xff", 8)
	for _, s := range []string{
		"\x80", "\xff\xff", full, full + "\xff", full + "\xff\xff", // no end
		"\x80\x00", "\x81\x00", "\xff\x80\x00", full + "\x00", full + "\xff\x00", // a superfluous group
		full + "\x7f", // -MaxInt - 1, of nine groups
		"\x80\x80\x80\x80\x80\x80\x80\x80\x80\x01", // MaxInt + 1, of ten groups
		full + "\xff\x01", full + "\xff\x7f", full + full + "\x01", strings.Repeat("\x80", 1000) + "\x01",
	} {
		checkInt(t, s, 0, 0, 0, api.ErrWire)
		checkInt(t, "\x02"+s, 1, 0, 0, api.ErrWire)
	}
}

// P1.1: neither the bytes before the offset nor those after the encoding matter.
func TestIntReadsOnlyTheEncoding(t *testing.T) {
	for _, before := range []string{"", "\x80", "\xff\xff", "\x00"} {
		for _, after := range []string{"", "\x00", "\x80", "\xff\xff"} {
			for _, n := range []int{0, 1, -64, 64, 150, api.MaxInt, -api.MaxInt} {
				e := reference(n)
				checkInt(t, before+e+after, len(before), n, len(before)+len(e), api.OK)
			}
		}
	}
}

// P1.2: the examples of the chapter, and strings around the lengths at which the encoding of the length grows.
func TestPutStringGivesTheBytes(t *testing.T) {
	checkString(t, "\x04abc", 0, "ab", 3, api.OK)
	for _, n := range []int{0, 1, 2, 63, 64, 8191, 8192, api.MaxString - 1, api.MaxString} {
		s := strings.Repeat("\x80a\x00\xff", n/4+1)[:n]
		e, err := wire.PutString(s)
		if e != reference(n)+s || err != api.OK {
			t.Errorf("PutString of %d bytes gives %d bytes, error %d", n, len(e), err)
		}
		checkString(t, "\x7f"+e+"z", 1, s, 1+len(e), api.OK)
	}
}

// P1.2
func TestLongStringsAreRefused(t *testing.T) {
	for _, n := range []int{api.MaxString + 1, api.MaxString + 2, 2 * api.MaxString} {
		s := strings.Repeat("x", n)
		if e, err := wire.PutString(s); e != "" || err != api.ErrWire {
			t.Errorf("PutString of %d bytes gives %d bytes, error %d; want ErrWire", n, len(e), err)
		}
		checkString(t, reference(n)+s, 0, "", 0, api.ErrWire)
	}
}

// P1.2: no encoding of a string begins at the offset.
func TestStringRefusesWhatIsNoEncoding(t *testing.T) {
	for _, s := range []string{
		"\x02", "\x04a", "\x80\x01" + strings.Repeat("a", 63), // fewer bytes than the length says
		"\x01", "\x01a", "\x03abc", reference(-api.MaxInt) + "a", // a negative length
		"\x80", "\x80\x00", "\x82\x00a", // the length is no encoding
		reference(api.MaxInt), reference(api.MaxInt) + "abc", reference(1<<32) + "a",
		strings.Repeat("\xff", 8) + "\x7f" + "a",
	} {
		checkString(t, s, 0, "", 0, api.ErrWire)
		checkString(t, "\x00"+s, 1, "", 0, api.ErrWire)
	}
}

// P1.4: decoding gives what was encoded, whatever surrounds the encoding.
func TestRoundTrip(t *testing.T) {
	r := rand.New(rand.NewSource(2))
	l := edges()
	for range 5000 {
		l = append(l, someInt(r))
	}
	for _, n := range l {
		before, e, after := someString(r, 12), mustPutInt(t, n), someString(r, 12)
		checkInt(t, before+e+after, len(before), n, len(before+e), api.OK)
	}
	for range 5000 {
		before, s, after := someString(r, 12), someString(r, 200), someString(r, 12)
		e := mustPutString(t, s)
		checkString(t, before+e+after, len(before), s, len(before+e), api.OK)
	}
}

// checkExact checks that what Int and String accept at the beginning of s is what PutInt and PutString return.
func checkExact(t *testing.T, s string) {
	t.Helper()
	if n, next, err := wire.Int(s, 0); err == api.OK && mustPutInt(t, n) != s[:next] {
		t.Fatalf("Int(%x) accepts %x, but PutInt(%d) is %x", s, s[:next], n, mustPutInt(t, n))
	}
	if u, next, err := wire.String(s, 0); err == api.OK && mustPutString(t, u) != s[:next] {
		t.Fatalf("String(%x) accepts %x, but PutString(%x) is %x", s, s[:next], u, mustPutString(t, u))
	}
}

// P1.4: all strings of up to two bytes, and random ones in which long runs of groups are likely.
func TestOnlyEncodingsAreAccepted(t *testing.T) {
	for a := range 256 {
		checkExact(t, string([]byte{byte(a)}))
		for b := range 256 {
			checkExact(t, string([]byte{byte(a), byte(b)}))
		}
	}
	r := rand.New(rand.NewSource(3))
	for range 200000 {
		b := []byte(someString(r, 12))
		for i := range b {
			if r.Intn(4) > 0 {
				b[i] |= 0x80
			} else if r.Intn(3) == 0 {
				b[i] = 0
			}
		}
		checkExact(t, string(b))
	}
}

// P1.4: no proper prefix of an encoding is accepted.
func TestPrefixFree(t *testing.T) {
	r := rand.New(rand.NewSource(4))
	for _, n := range edges() {
		e := mustPutInt(t, n)
		for i := range len(e) {
			checkInt(t, e[:i], 0, 0, 0, api.ErrWire)
		}
	}
	for range 500 {
		e := mustPutString(t, someString(r, 150))
		for i := range len(e) {
			checkString(t, e[:i], 0, "", 0, api.ErrWire)
		}
	}
}

// P1.4: a concatenation of encodings is decoded to what was encoded.
func TestConcatenation(t *testing.T) {
	r := rand.New(rand.NewSource(5))
	for range 500 {
		var s string
		var ints []int
		var texts []string
		for range r.Intn(20) {
			n, u := someInt(r), someString(r, 20)
			s += mustPutInt(t, n) + mustPutString(t, u)
			ints, texts = append(ints, n), append(texts, u)
		}
		at := 0
		for i := range ints {
			n, next, err := wire.Int(s, at)
			u, end, err2 := wire.String(s, next)
			if n != ints[i] || u != texts[i] || err != api.OK || err2 != api.OK {
				t.Fatalf("item %d of %x: %d, %x, errors %d and %d; want %d, %x", i, s, n, u, err, err2, ints[i], texts[i])
			}
			at = end
		}
		if at != len(s) {
			t.Fatalf("the items of %x end at %d", s, at)
		}
	}
}
