package wire_test

import (
	"hash/crc32"
	"math/rand"
	"strings"
	"testing"

	"copydesk/wire"
)

// definition computes the checksum bit by bit, as the chapter defines it.
func definition(s string) int {
	register := uint32(0xFFFFFFFF)
	for _, b := range []byte(s) {
		register ^= uint32(b)
		for range 8 {
			out := register & 1
			register >>= 1
			if out == 1 {
				register ^= 0x82F63B78
			}
		}
	}
	return int(^register)
}

// P1.3: published values of CRC-32C.
func TestSumOfKnownStrings(t *testing.T) {
	for s, want := range map[string]int{
		"":                         0,
		"a":                        3251651376,
		"123456789":                3808858755,
		strings.Repeat("\x00", 32): 0x8A9136AA,
		strings.Repeat("\xff", 32): 0x62A8AB43,
	} {
		if n := wire.Sum(s); n != want {
			t.Errorf("Sum(%q) = %d, want %d", s, n, want)
		}
	}
}

// P1.3: all strings of up to two bytes, and random longer ones.
func TestSumAgreesWithTheDefinition(t *testing.T) {
	var l []string
	for a := range 256 {
		l = append(l, string([]byte{byte(a)}))
		for b := range 256 {
			l = append(l, string([]byte{byte(a), byte(b)}))
		}
	}
	r := rand.New(rand.NewSource(6))
	for range 500 {
		l = append(l, someString(r, 1000))
	}
	table := crc32.MakeTable(crc32.Castagnoli)
	for _, s := range l {
		n := wire.Sum(s)
		if n != definition(s) || n != int(crc32.Checksum([]byte(s), table)) {
			t.Fatalf("Sum(%x) = %d, want %d", s, n, definition(s))
		}
		if n < 0 || n > 4294967295 {
			t.Fatalf("Sum(%x) = %d is not in the range", s, n)
		}
	}
}

// flipped returns s with the bits of burst flipped from bit at on. Bits are counted as the register takes them in: in each byte the least significant one first.
func flipped(s string, at int, burst uint32) string {
	b := []byte(s)
	for i := range 32 {
		if burst>>i&1 == 1 {
			b[(at+i)/8] ^= 1 << ((at + i) % 8)
		}
	}
	return string(b)
}

// P1.4: a change of at most 32 consecutive bits changes the checksum.
func TestBurstsChangeTheSum(t *testing.T) {
	r := rand.New(rand.NewSource(7))
	for range 200 {
		s := someString(r, 60) + "12345"
		sum := wire.Sum(s)
		for range 500 {
			length := 1 + r.Intn(32)
			// The first bit is flipped, so that the burst is a change.
			burst := 1 | r.Uint32()>>(32-length)
			at := r.Intn(len(s)*8 - length + 1)
			if wire.Sum(flipped(s, at, burst)) == sum {
				t.Fatalf("Sum(%x) does not notice the burst %b at bit %d", s, burst, at)
			}
		}
	}
}

// P1.4: every change of up to 16 consecutive bits, at each place of a short string.
func TestShortBurstsChangeTheSum(t *testing.T) {
	s := "\x00Rain"
	sum := wire.Sum(s)
	for at := range len(s)*8 - 15 {
		for burst := uint32(1); burst < 1<<16; burst++ {
			if wire.Sum(flipped(s, at, burst)) == sum {
				t.Fatalf("Sum(%x) does not notice the burst %b at bit %d", s, burst, at)
			}
		}
	}
}
