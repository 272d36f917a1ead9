package check_test

import (
	"encoding/binary"
	"hash/crc32"
	"math"
	"math/bits"
	"math/rand"
	"strings"
	"testing"

	"sinew/api"
	"sinew/check"
)

// bitByBit is Ch1's words, one after the other, on numbers that do not wrap round.
func bitByBit(s string) int {
	n := 1<<32 - 1
	for i := range len(s) {
		n ^= int(s[i]) * (1 << 24)
		for range 8 {
			n *= 2
			if n >= 1<<32 {
				n -= 1 << 32
				n ^= 0x04c11db7
			}
		}
	}
	return n ^ (1<<32 - 1)
}

// mirrored is the same sum by the library, which goes through the bits of each byte the other way about.
func mirrored(s string) int {
	b := []byte(s)
	for i := range b {
		b[i] = bits.Reverse8(b[i])
	}
	return int(bits.Reverse32(crc32.ChecksumIEEE(b)))
}

// noise is bytes that look like chance and are the same in every run.
func noise(seed int64, size int) string {
	b := make([]byte, size)
	r := rand.New(rand.NewSource(seed))
	for i := range b {
		b[i] = byte(r.Intn(256))
	}
	return string(b)
}

// texts are bytes of many kinds and lengths.
func texts() []string {
	l := []string{"", "a", "ann", "p:knows", "-", "::", "abcdefghijklmnop", "123456789", "a\x00", "\x00a", "ä ?\n", strings.Repeat("z", api.MaxStr)}
	for size := range 70 {
		l = append(l, noise(int64(size), size))
	}
	for _, size := range []int{255, 256, 257, 4096, 65535, 65536, 100003, api.MaxBody} {
		l = append(l, noise(int64(size), size))
	}
	return l
}

func wantSum(t *testing.T, s string) {
	t.Helper()
	got := check.Sum(s)
	if want := bitByBit(s); got != want {
		t.Errorf("Sum of %d bytes (%.20q): %d, want %d", len(s), s, got, want)
	}
	if want := mirrored(s); got != want {
		t.Errorf("Sum of %d bytes (%.20q): %d, the library's is %d", len(s), s, got, want)
	}
	if got < 0 || got > math.MaxUint32 {
		t.Errorf("Sum of %d bytes (%.20q): %d is not of 32 bits", len(s), s, got)
	}
}

// Ch1: the chapter's examples, and some that were reckoned elsewhere.
func TestSumExamples(t *testing.T) {
	for s, want := range map[string]int{
		"":                 0,
		"123456789":        4236843288,
		"\x00":             0xb1f7404b,
		"\xff":             0x000000ff,
		"\x00\x00\x00\x00": 0x38fb2284,
		"\xff\xff\xff\xff": 0xffffffff,
	} {
		if got := check.Sum(s); got != want {
			t.Errorf("Sum(%q): %d, want %d", s, got, want)
		}
	}
	if check.Sum("123456789") != 0xfc891918 {
		t.Error("Sum of the nine digits is not 0xfc891918")
	}
}

// Ch1: each byte alone, and each behind and ahead of others.
func TestSumEachByte(t *testing.T) {
	for c := range 256 {
		s := string([]byte{byte(c)})
		for _, x := range []string{s, s + s, "\x00" + s, s + "\x00", "\xff" + s, s + "\xff", "ann" + s, s + "ann", s + "\x00\x00\x00\x00" + s} {
			wantSum(t, x)
		}
	}
}

// Ch1: all bytes of two.
func TestSumTwoBytes(t *testing.T) {
	for i := range 256 {
		for j := range 256 {
			wantSum(t, string([]byte{byte(i), byte(j)}))
		}
	}
}

// Ch1: none, many, and 0 and 255 alone, so and so often.
func TestSumMany(t *testing.T) {
	for _, s := range texts() {
		wantSum(t, s)
	}
	for k := range 300 {
		wantSum(t, strings.Repeat("\x00", k))
		wantSum(t, strings.Repeat("\xff", k))
		wantSum(t, strings.Repeat("\x00\xff", k))
		wantSum(t, strings.Repeat("\xff\x00", k))
	}
}

// R4: a sum hangs on its text alone: not on what was asked ahead, nor on what stands around it.
func TestSumAgain(t *testing.T) {
	around := "xx123456789yy"
	for range 3 {
		if got := check.Sum(around[2:11]); got != 4236843288 {
			t.Errorf("Sum of nine digits amidst others: %d", got)
		}
		check.Sum(noise(1, 1000))
	}
}

func FuzzSum(f *testing.F) {
	for _, s := range []string{"", "\x00", "\xff", "123456789", "abcdefghijklmnop"} {
		f.Add(s)
	}
	f.Fuzz(wantSum)
}

// someWords are texts that Home takes: words, and texts that are none but are not empty.
func someWords() []string {
	l := []string{"\x00", "\xff", "A", " ", "?x", "a b", strings.Repeat("a", api.MaxWord+1), strings.Repeat("z", api.MaxStr)}
	for _, s := range texts() {
		if s != "" {
			l = append(l, s)
		}
	}
	return l
}

// Ch2: one of the workers, the sum modulo how many there are.
func TestHome(t *testing.T) {
	for _, s := range someWords() {
		if len(s) > 300 {
			continue
		}
		for workers := 1; workers <= api.MaxWorkers; workers++ {
			n, e := check.Home(s, workers)
			if n != bitByBit(s)%workers || e != api.OK {
				t.Errorf("Home(%.20q, %d): %d %d, want %d", s, workers, n, e, bitByBit(s)%workers)
			}
			if n < 0 || n >= workers {
				t.Errorf("Home(%.20q, %d): %d is none of the workers", s, workers, n)
			}
		}
	}
}

// Ch2: the edges by number; a text's length does not matter.
func TestHomeEdges(t *testing.T) {
	for _, s := range someWords() {
		if n, e := check.Home(s, 1); n != 0 || e != api.OK {
			t.Errorf("Home(%.20q, 1): %d %d", s, n, e)
		}
		if n, e := check.Home(s, 64); n != bitByBit(s)%64 || e != api.OK {
			t.Errorf("Home(%.20q, 64): %d %d", s, n, e)
		}
	}
	if n, e := check.Home("123456789", 10); n != 8 || e != api.OK {
		t.Errorf("Home of nine digits, of 10: %d %d", n, e)
	}
	if n, e := check.Home("\xff\xff\xff\xff", 64); n != 63 || e != api.OK { // the greatest sum
		t.Errorf("Home of the greatest sum, of 64: %d %d", n, e)
	}
}

func refusedHome(t *testing.T, word string, workers int) {
	t.Helper()
	if n, e := check.Home(word, workers); n != 0 || e != api.ErrArg {
		t.Errorf("Home(%.20q, %d): %d %d, want 0 and ErrArg", word, workers, n, e)
	}
}

// Ch2: no word, or workers that may not be, and 0 beside the error (R2).
func TestHomeRefused(t *testing.T) {
	wrong := []int{0, 65, 66, 128, 1 << 32, 1<<32 + 1, math.MaxInt32, math.MaxInt, -1, -2, -64, -65, math.MinInt32, math.MinInt + 1, math.MinInt}
	for _, workers := range wrong {
		refusedHome(t, "", workers)
		for _, s := range []string{"a", "ann", "123456789", "\x00", "abcdefghijklmnop"} {
			refusedHome(t, s, workers)
		}
	}
	for workers := 1; workers <= api.MaxWorkers; workers++ {
		refusedHome(t, "", workers)
	}
}

// turned is a text with some of 32 bits in a row turned about, from a bit on, the highest of a byte first.
func turned(s string, from int, mask uint32) string {
	b := append([]byte(s), make([]byte, 5)...)
	for i := range 32 {
		if mask<<i>>31 == 1 {
			b[(from+i)/8] ^= 0x80 >> ((from + i) % 8)
		}
	}
	return string(b[:len(s)])
}

// ends are the bits at which 32 bits in a row may begin: at the text's beginning, in its midst, at its end, and about bounds of bytes.
func ends(s string) []int {
	last := 8*len(s) - 32
	l := []int{0, last}
	for _, mid := range []int{1, 2, 3, 4, 5, 6, 7, 8, 9, last / 2, last/2 + 1, last/2 + 3, last - 9, last - 8, last - 7, last - 1} {
		if mid > 0 && mid < last {
			l = append(l, mid)
		}
	}
	return l
}

func unlike(t *testing.T, s, other string) {
	t.Helper()
	if s == other {
		t.Fatalf("the test's own texts are alike: %.20q", s)
	}
	if a, b := check.Sum(s), check.Sum(other); a == b {
		t.Errorf("two texts of %d bytes, %.20q and %.20q, have one sum: %d", len(s), s, other, a)
	}
}

// burstTexts are texts of at least four bytes, within which bits are turned.
func burstTexts() []string {
	l := []string{"\x00\x00\x00\x00", "\xff\xff\xff\xff", "123456789", "abcdefghijklmnop", strings.Repeat("\x00", 40), strings.Repeat("\xff", 40)}
	for size := 4; size < 40; size += 5 {
		l = append(l, noise(int64(size), size))
	}
	return l
}

// Ch3: one bit, wherever it stands.
func TestUnlikeOneBit(t *testing.T) {
	for _, s := range append(burstTexts(), "a", "\x00", "ab", "ann", noise(7, 1000)) {
		for i := range 8 * len(s) {
			unlike(t, s, turned(s, i, 1<<31))
		}
	}
}

// Ch3: one byte, in every way, wherever it stands.
func TestUnlikeOneByte(t *testing.T) {
	for _, s := range append(burstTexts(), "a", "\x00", "ab", "ann") {
		for i := range len(s) {
			for x := uint32(1); x < 256; x++ {
				unlike(t, s, turned(s, 8*i, x<<24))
			}
		}
	}
}

// Ch3: four bytes in a row, and 32 bits that begin within a byte.
func TestUnlikeFourBytes(t *testing.T) {
	masks := []uint32{math.MaxUint32, 0x80000001, 0x04c11db7, 0x82608edb, 0xff0000ff, 0x01010101, 0xedb88320, 0xdb710641}
	for i := range 32 {
		masks = append(masks, 1<<i, 1<<31|1<<i, 1<<i|1, math.MaxUint32<<i, math.MaxUint32>>i)
	}
	r := rand.New(rand.NewSource(3))
	for range 200 {
		masks = append(masks, r.Uint32()|1)
	}
	for _, s := range append(burstTexts(), noise(7, 1000)) {
		for _, from := range ends(s) {
			for _, m := range masks {
				unlike(t, s, turned(s, from, m))
			}
		}
	}
}

// Ch3: texts of one to four bytes that are unlike at all have unlike sums; here, all of one byte and of two.
func TestUnlikeShort(t *testing.T) {
	seen := map[int]string{}
	for i := range 1 << 16 {
		s := string(binary.BigEndian.AppendUint16(nil, uint16(i)))
		if other, ok := seen[check.Sum(s)]; ok {
			t.Errorf("%q and %q have one sum", s, other)
		}
		seen[check.Sum(s)] = s
	}
	clear(seen)
	for i := range 256 {
		seen[check.Sum(string([]byte{byte(i)}))] = ""
	}
	if len(seen) != 256 {
		t.Errorf("the 256 texts of one byte have %d sums", len(seen))
	}
}

// independent says whether no xor of some of the numbers is 0.
func independent(l []uint32) bool {
	var byTop [33]uint32
	for _, n := range l {
		for n != 0 && byTop[bits.Len32(n)] != 0 {
			n ^= byTop[bits.Len32(n)]
		}
		if n == 0 {
			return false
		}
		byTop[bits.Len32(n)] = n
	}
	return true
}

// Ch3, all of the 2^32 - 1 ways at once: what bits turned together change in a sum is the xor of what each changes alone (TestTurnedTogether), so it is never 0 if what the 32 change is independent.
func TestUnlikeAllWays(t *testing.T) {
	for _, s := range append(burstTexts(), noise(7, 200)) {
		for from := range 8*len(s) - 31 {
			var change []uint32
			for i := range 32 {
				change = append(change, uint32(check.Sum(s)^check.Sum(turned(s, from+i, 1<<31))))
			}
			if !independent(change) {
				t.Fatalf("some of the 32 bits from %d on of %.20q, turned together, leave its sum as it is", from, s)
			}
		}
	}
}

// Ch3: what bits change together is the xor of what they change alone.
func TestTurnedTogether(t *testing.T) {
	r := rand.New(rand.NewSource(5))
	for _, s := range append(burstTexts(), noise(7, 1000)) {
		for _, from := range ends(s) {
			a, b := r.Uint32(), r.Uint32()
			alone := check.Sum(turned(s, from, a)) ^ check.Sum(turned(s, from, b))
			if both := check.Sum(s) ^ check.Sum(turned(s, from, a^b)); both != alone {
				t.Errorf("bits from %d on of %.20q: %#x and %#x change %#x together, %#x alone", from, s, a, b, both, alone)
			}
		}
	}
}
