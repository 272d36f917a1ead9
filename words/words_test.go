package words_test

import (
	"math"
	"math/rand"
	"slices"
	"strings"
	"testing"

	"sinew/api"
	"sinew/words"
)

// letters are all bytes that may stand in a word, spelt out.
const letters = "abcdefghijklmnopqrstuvwxyz0123456789-:"

// isWord is what a word is, in the chapter's own words.
func isWord(s string) bool {
	for i := range len(s) {
		if strings.IndexByte(letters, s[i]) < 0 {
			return false
		}
	}
	return len(s) >= 1 && len(s) <= 16
}

// page is a dictionary in the chapter's own words: a list in which each word stands once, its number the place where it stands.
type page struct {
	list []string
}

func (p *page) put(word string) (int, api.Errno) {
	if !isWord(word) {
		return 0, api.ErrArg
	}
	if n := slices.Index(p.list, word); n >= 0 {
		return n, api.OK
	}
	p.list = append(p.list, word)
	return len(p.list) - 1, api.OK
}

func (p *page) id(word string) (int, api.Errno) {
	if n := slices.Index(p.list, word); n >= 0 {
		return n, api.OK
	}
	return 0, api.ErrNone
}

// sorted puts each number ahead of the first one whose word has greater bytes.
func (p *page) sorted() []int {
	var l []int
	for n, w := range p.list {
		at := 0
		for at < len(l) && less(p.list[l[at]], w) {
			at++
		}
		l = slices.Insert(l, at, n)
	}
	return l
}

// less tells whether a stands ahead of b: by the first byte in which they differ, or because b goes on where a ends.
func less(a, b string) bool {
	for i := range min(len(a), len(b)) {
		if a[i] != b[i] {
			return a[i] < b[i]
		}
	}
	return len(a) < len(b)
}

// someWords are of unlike lengths, with words among them that others begin with; not in the order of their bytes.
func someWords() []string {
	return []string{
		"bob", "ann", "anna", "an", "a", "z", "-", ":", "0", "9", "--", ":-", "-:", "a-b", "a:b", "a0", "a9b", "0a",
		"ab", "b", "az", "aaaaaaaaaaaaaaaa", "aaaaaaaaaaaaaaa", "zzzzzzzzzzzzzzzz", "0123456789-:abcz", "cat", "10", "1", "2", "9a",
	}
}

// noWords are texts that are none, by each thing that a word must be.
func noWords() map[string]string {
	return map[string]string{
		"empty":               "",
		"17 bytes":            strings.Repeat("a", 17),
		"272 bytes":           strings.Repeat("a", 272),
		"65537 bytes":         strings.Repeat("a", 1<<16+1),
		"a great letter":      "Bob",
		"a great letter last": "boB",
		"a blank":             "bob ann",
		"a blank ahead":       " bob",
		"a blank behind":      "bob ",
		"blank alone":         " ",
		"a newline":           "bob\n",
		"a byte 0":            "bob\x00",
		"a byte 0 alone":      "\x00",
		"a byte above 127":    "b\xffb",
		"an umlaut":           "jürg",
		"an umlaut alone":     "ü",
		"a wide letter a":     "\uff41",
		"an underline":        "a_b",
		"a variable":          "?x",
		"17 bytes, one wrong": strings.Repeat("a", 16) + "A",
	}
}

// Dictionaries of many kinds.

// put puts a word that must get this number.
func put(t *testing.T, d *words.Dict, word string, want int) {
	t.Helper()
	if n, e := d.Put(word); n != want || e != api.OK {
		t.Fatalf("Put(%q): %d, %d, want %d", word, n, e, want)
	}
}

// made is a dictionary of words none of which is twice in the list.
func made(t *testing.T, list ...string) *words.Dict {
	t.Helper()
	d := words.New()
	if d == nil {
		t.Fatal("New: nil")
	}
	for n, w := range list {
		put(t, d, w, n)
	}
	return d
}

// holds tells whether a dictionary has just these words, by all that can be asked of it.
func holds(t *testing.T, name string, d *words.Dict, list []string) {
	t.Helper()
	if n := d.Len(); n != len(list) {
		t.Errorf("%s: Len: %d, want %d", name, n, len(list))
	}
	for n, w := range list {
		if s, e := d.Word(n); s != w || e != api.OK {
			t.Errorf("%s: Word(%d): %q, %d, want %q", name, n, s, e, w)
		}
		if id, e := d.Id(w); id != n || e != api.OK {
			t.Errorf("%s: Id(%q): %d, %d, want %d", name, w, id, e, n)
		}
	}
	for _, n := range []int{math.MinInt, -1 << 32, -len(list), -1, len(list), len(list) + 1, 1 << 32, math.MaxInt} {
		if s, e := d.Word(n); s != "" || e != api.ErrNone {
			t.Errorf("%s: Word(%d): %q, %d, want ErrNone", name, n, s, e)
		}
	}
	p := page{list}
	if l, want := d.Sorted(), p.sorted(); !slices.Equal(l, want) {
		t.Errorf("%s: Sorted: %v, want %v", name, l, want)
	}
}

// The chapter's example.
func TestExample(t *testing.T) {
	d := words.New()
	put(t, d, "bob", 0)
	put(t, d, "ann", 1)
	if l := d.Sorted(); !slices.Equal(l, []int{1, 0}) {
		t.Errorf("Sorted: %v", l)
	}
}

// Wo1: texts of each length, the limits 1 and 16 among them.
func TestIsLength(t *testing.T) {
	for length := range 600 {
		for i := range len(letters) {
			s := strings.Repeat(letters[i:i+1], length)
			if got, want := words.Is(s), length >= 1 && length <= 16; got != want {
				t.Fatalf("Is of %d times %q: %v", length, letters[i:i+1], got)
			}
		}
	}
	for _, length := range []int{1 << 12, 1 << 16, 1<<16 + 1, 1<<16 + 16, 1 << 24} {
		if words.Is(strings.Repeat("a", length)) {
			t.Errorf("Is of %d bytes", length)
		}
	}
}

// Wo1: each byte value alone; spelt out those next to the ones that may be.
func TestIsByte(t *testing.T) {
	count := 0
	for b := range 256 {
		s := string([]byte{byte(b)})
		if words.Is(s) != isWord(s) {
			t.Errorf("Is of the byte %d: %v", b, words.Is(s))
		}
		if words.Is(s) {
			count++
		}
	}
	if count != 26+10+2 {
		t.Errorf("%d bytes may stand in a word", count)
	}
	for _, s := range []string{"a", "z", "0", "9", "-", ":"} {
		if !words.Is(s) {
			t.Errorf("Is(%q): false", s)
		}
	}
	for _, s := range []string{"`", "{", "/", ";", ",", ".", "A", "Z", "\x7f", "\x80", "\xff"} {
		if words.Is(s) {
			t.Errorf("Is(%q): true", s)
		}
	}
}

// Wo1: one byte of each value, at each place of words of each length.
func TestIsOneByte(t *testing.T) {
	for length := 1; length <= 17; length++ {
		for at := range length {
			for b := range 256 {
				s := []byte(strings.Repeat("m", length))
				s[at] = byte(b)
				if words.Is(string(s)) != isWord(string(s)) {
					t.Fatalf("Is(%q): %v", s, words.Is(string(s)))
				}
			}
		}
	}
}

// Wo1: words, and texts that are none.
func TestIs(t *testing.T) {
	for _, w := range someWords() {
		if !words.Is(w) {
			t.Errorf("Is(%q): false", w)
		}
	}
	for name, s := range noWords() {
		if words.Is(s) {
			t.Errorf("Is of %s: true", name)
		}
	}
}

// Wo1: an empty dictionary.
func TestNew(t *testing.T) {
	d := made(t)
	holds(t, "new", d, nil)
	for _, w := range someWords() {
		if n, e := d.Id(w); n != 0 || e != api.ErrNone {
			t.Errorf("Id(%q): %d, %d", w, n, e)
		}
	}
	holds(t, "asked for", d, nil)
}

// Wo1: a word that is not there gets the number of how many there were; one that is there has its own, at once and later.
func TestPut(t *testing.T) {
	list := someWords()
	d := made(t)
	for k, w := range list {
		for range 2 {
			put(t, d, w, k)
			holds(t, "put", d, list[:k+1])
		}
		put(t, d, list[k/2], k/2)
		holds(t, "put again", d, list[:k+1])
	}
}

// Wo1: a text that is no word is refused and changes nothing, be there words or none.
func TestPutNoWord(t *testing.T) {
	list := someWords()
	for name, s := range noWords() {
		for _, count := range []int{0, 1, 2, len(list)} {
			d := made(t, list[:count]...)
			for range 2 {
				if n, e := d.Put(s); n != 0 || e != api.ErrArg {
					t.Errorf("Put of %s: %d, %d", name, n, e)
				}
			}
			holds(t, name, d, list[:count])
			if n, e := d.Id(s); n != 0 || e != api.ErrNone {
				t.Errorf("Id of %s, behind it: %d, %d", name, n, e)
			}
			put(t, d, "next-one", count)
		}
	}
}

// Wo1: of a word that is not there, and of a text that is no word, there is no number; asking puts nothing.
func TestIdNone(t *testing.T) {
	list := someWords()
	for k, w := range list {
		d := made(t, slices.Delete(slices.Clone(list), k, k+1)...)
		if n, e := d.Id(w); n != 0 || e != api.ErrNone {
			t.Errorf("Id(%q): %d, %d, want ErrNone", w, n, e)
		}
		put(t, d, w, len(list)-1)
	}
	d := made(t, list...)
	for name, s := range noWords() {
		if n, e := d.Id(s); n != 0 || e != api.ErrNone {
			t.Errorf("Id of %s: %d, %d, want ErrNone", name, n, e)
		}
	}
	for _, near := range []string{"bo", "bobb", "boc", "aaaaaaaaaaaaaa", "zzzzzzzzzzzzzzz", "---"} {
		if n, e := d.Id(near); n != 0 || e != api.ErrNone {
			t.Errorf("Id(%q): %d, %d, want ErrNone", near, n, e)
		}
	}
	holds(t, "asked for", d, list)
}

// Wo1: the order is that of the bytes: - ahead of digits, digits ahead of :, : ahead of letters, a beginning ahead of what goes on.
func TestSorted(t *testing.T) {
	for name, want := range map[string][]string{
		"none":       {},
		"one":        {"ann"},
		"two":        {"ann", "bob"},
		"beginnings": {"a", "aa", "aaa", "aaaaaaaaaaaaaaa", "aaaaaaaaaaaaaaaa", "aaaaaaaaaaaaaaab", "ab", "b"},
		"bytes":      {"-", "0", "9", ":", "a", "z"},
		"behind a":   {"a", "a-", "a-z", "a0", "a9", "a:", "a:-", "aa", "az"},
		"digits":     {"1", "10", "100", "11", "2", "20", "9"},
		"last byte":  {"xxxxxxxxxxxxxxx-", "xxxxxxxxxxxxxxx0", "xxxxxxxxxxxxxxx:", "xxxxxxxxxxxxxxxa"},
	} {
		turned := slices.Clone(want)
		slices.Reverse(turned)
		half := len(want) / 2
		for _, list := range [][]string{want, turned, slices.Concat(want[half:], want[:half])} {
			d := made(t, list...)
			var got []string
			for _, n := range d.Sorted() {
				w, e := d.Word(n)
				if e != api.OK {
					t.Errorf("%s: Word(%d): %d", name, n, e)
				}
				got = append(got, w)
			}
			if !slices.Equal(got, want) {
				t.Errorf("%s: sorted: %q, want %q", name, got, want)
			}
		}
	}
}

// Wo1: each order of a few words.
func TestSortedEachOrder(t *testing.T) {
	var each func(ahead, rest []string)
	each = func(ahead, rest []string) {
		if len(rest) == 0 {
			holds(t, strings.Join(ahead, " "), made(t, ahead...), ahead)
		}
		for k, w := range rest {
			each(append(slices.Clip(ahead), w), slices.Delete(slices.Clone(rest), k, k+1))
		}
	}
	each(nil, []string{"a", "ab", "a:", "b", "-", "0"})
}

// manyWords are so many, no two alike: all words of one letter, then all of two, and so on.
func manyWords(count int) []string {
	l := make([]string, count)
	for i := range l {
		for n := i + 1; n > 0; n = (n - 1) / len(letters) {
			l[i] = string(letters[(n-1)%len(letters)]) + l[i]
		}
	}
	return l
}

// Wo2: many words in several orders, some of them again and again.
func TestNumbers(t *testing.T) {
	list := manyWords(5000)
	r := rand.New(rand.NewSource(5))
	for range 5 {
		d := made(t)
		// A word that is put again, however late, has the number that it got first.
		for k, w := range list {
			put(t, d, w, k)
			again := r.Intn(k + 1)
			put(t, d, list[again], again)
		}
		taken := make([]int, len(list))
		for _, w := range list {
			n, e := d.Id(w)
			if e != api.OK || n < 0 || n >= len(list) {
				t.Fatalf("Id(%q): %d, %d", w, n, e)
			}
			taken[n]++
		}
		if slices.Min(taken) != 1 || slices.Max(taken) != 1 {
			t.Error("two words have one number")
		}
		sortedWell(t, d, len(list))
		r.Shuffle(len(list), func(a, b int) { list[a], list[b] = list[b], list[a] })
	}
}

// sortedWell tells whether Sorted has so many numbers, each once, and their words rise.
func sortedWell(t *testing.T, d *words.Dict, count int) {
	t.Helper()
	l := d.Sorted()
	if len(l) != count || d.Len() != count {
		t.Fatalf("%d sorted of %d, want %d", len(l), d.Len(), count)
	}
	// Words that rise are no two alike, so that no number is there twice.
	for i := 1; i < len(l); i++ {
		a, ea := d.Word(l[i-1])
		b, eb := d.Word(l[i])
		if ea != api.OK || eb != api.OK || !less(a, b) {
			t.Fatalf("%q stands ahead of %q", a, b)
		}
	}
}

// Wo2: a word's number and a number's word stay, whatever is put behind them, a text that is no word among it.
func TestKept(t *testing.T) {
	list := manyWords(300)
	d := made(t)
	for k, w := range list {
		put(t, d, w, k)
		if n, e := d.Put(w + "!"); n != 0 || e != api.ErrArg {
			t.Fatalf("Put(%q): %d, %d", w+"!", n, e)
		}
		for n, was := range list[:k+1] {
			if id, e := d.Id(was); id != n || e != api.OK {
				t.Fatalf("Id(%q) behind %d words: %d, %d", was, k+1, id, e)
			}
			if s, e := d.Word(n); s != was || e != api.OK {
				t.Fatalf("Word(%d) behind %d words: %q, %d", n, k+1, s, e)
			}
		}
	}
}

// R1: nil, and dictionaries that New did not give; a copy of one that it gave is none of these either.
func TestNotGiven(t *testing.T) {
	given := made(t, "bob", "ann")
	copied := *given
	for name, d := range map[string]*words.Dict{
		"nil":    nil,
		"none":   {},
		"new":    new(words.Dict),
		"copied": &copied,
	} {
		for range 2 {
			for _, s := range []string{"", "bob", "cat", "Bob", strings.Repeat("a", 17)} {
				if n, e := d.Put(s); n != 0 || e != api.ErrArg {
					t.Errorf("%s: Put(%q): %d, %d", name, s, n, e)
				}
				if n, e := d.Id(s); n != 0 || e != api.ErrArg {
					t.Errorf("%s: Id(%q): %d, %d", name, s, n, e)
				}
			}
			for _, n := range []int{math.MinInt, -1, 0, 1, 2, math.MaxInt} {
				if s, e := d.Word(n); s != "" || e != api.ErrArg {
					t.Errorf("%s: Word(%d): %q, %d", name, n, s, e)
				}
			}
			if n := d.Len(); n != 0 {
				t.Errorf("%s: Len: %d", name, n)
			}
			if l := d.Sorted(); len(l) != 0 {
				t.Errorf("%s: Sorted: %v", name, l)
			}
		}
	}
	holds(t, "the one that was copied", given, []string{"bob", "ann"})
}

// R3: what Sorted answered is new memory: what is done to it changes no dictionary and no other answer.
func TestAnswersAreNew(t *testing.T) {
	list := someWords()
	d := made(t, list...)
	first, second := d.Sorted(), d.Sorted()
	want := slices.Clone(second)
	for i := range first {
		first[i] = -1
	}
	first = append(first[:1], 99, 98)
	if !slices.Equal(second, want) {
		t.Error("two answers share memory")
	}
	holds(t, "behind that", d, list)
	put(t, d, "00", len(list))
	if !slices.Equal(second, want) {
		t.Error("an earlier answer has changed")
	}
	if _ = append(second, 77); len(d.Sorted()) != len(list)+1 {
		t.Error("an answer's room is the dictionary's")
	}
	holds(t, "one more", d, append(slices.Clip(list), "00"))
}

// R3: a word is taken by its bytes, whatever stands about it in the text that it is a piece of.
func TestPieces(t *testing.T) {
	text := "ann knows bob and bob knows ann"
	d := made(t)
	put(t, d, text[0:3], 0)
	put(t, d, text[4:9], 1)
	put(t, d, text[10:13], 2)
	put(t, d, text[18:21], 2)
	put(t, d, text[22:27], 1)
	put(t, d, text[28:], 0)
	put(t, d, string([]byte("bob")), 2)
	holds(t, "pieces", d, []string{"ann", "knows", "bob"})
}

// R4: what is done to a dictionary hangs on no other one, and the same calls answer the same.
func TestSideBySide(t *testing.T) {
	list := someWords()
	turned := slices.Clone(list)
	slices.Reverse(turned)
	d, e, again := made(t), made(t), made(t)
	for k := range list {
		put(t, d, list[k], k)
		put(t, e, turned[k], k)
		put(t, again, list[k], k)
	}
	holds(t, "one", d, list)
	holds(t, "the other", e, turned)
	holds(t, "the same again", again, list)
	if !slices.Equal(d.Sorted(), again.Sorted()) {
		t.Error("two that are alike are sorted otherwise")
	}
}

// play does to a dictionary and to a page what bytes say: pieces of them are put, or asked for.
func play(t *testing.T, script []byte) {
	t.Helper()
	d, p := made(t), &page{}
	// Each step asks for all words, so that a long script would take far too long.
	script = script[:min(len(script), 400)]
	for len(script) > 0 {
		length := min(int(script[0]/8)%20, len(script)-1)
		s := textBy(script[0], script[1:1+length])
		if words.Is(s) != isWord(s) {
			t.Fatalf("Is(%q): %v", s, words.Is(s))
		}
		n, e := d.Id(s)
		if want, wrong := p.id(s); n != want || e != wrong {
			t.Fatalf("Id(%q): %d, %d, want %d, %d", s, n, e, want, wrong)
		}
		n, e = d.Put(s)
		if want, wrong := p.put(s); n != want || e != wrong {
			t.Fatalf("Put(%q): %d, %d, want %d, %d", s, n, e, want, wrong)
		}
		holds(t, "played", d, p.list)
		script = script[1+length:]
	}
}

// textBy are bytes as they are, at one kind in eight; else they are turned into few letters, so that words come again and again.
func textBy(kind byte, b []byte) string {
	if kind%8 == 0 {
		return string(b)
	}
	w := make([]byte, len(b))
	for i := range b {
		w[i] = "ab-0:"[int(b[i])%5]
	}
	return string(w)
}

// Wo1, Wo2: many scripts that look like chance and are the same in every run.
func TestScripts(t *testing.T) {
	r := rand.New(rand.NewSource(14))
	for range 500 {
		script := make([]byte, r.Intn(300))
		r.Read(script)
		play(t, script)
	}
}

// FuzzScript: whatever is put, a dictionary answers as the page does.
func FuzzScript(f *testing.F) {
	f.Add([]byte{})
	f.Add([]byte("\x18bob\x18ann\x18bob"))
	f.Add([]byte("\x19abc\x11ab\x09a\x00\x88aaaaaaaaaaaaaaaaa"))
	f.Fuzz(play)
}
