package token_test

import (
	"math/rand"
	"regexp"
	"slices"
	"strings"
	"testing"
	"unsafe"

	"sinew/api"
	"sinew/token"
)

// What may stand in a text, spelt out.
const (
	wordBytes = "abcdefghijklmnopqrstuvwxyz0123456789-:"
	marks     = "{}()./|*+?"
	betweens  = " \t\n"
)

// only tells whether a text has bytes of some kind alone.
func only(kind, s string) bool {
	for i := range len(s) {
		if strings.IndexByte(kind, s[i]) < 0 {
			return false
		}
	}
	return true
}

// isSign tells whether a piece of a text is a sign of a kind, in the chapter's own words, however long it is.
func isSign(kind int, s string) bool {
	switch kind {
	case api.SignWord:
		return s != "" && only(wordBytes, s)
	case api.SignName:
		return len(s) > 1 && s[0] == '?' && only(wordBytes, s[1:])
	case api.SignMark:
		return len(s) == 1 && only(marks, s)
	}
	return false
}

func word(at int, text string) api.Sign {
	return api.Sign{Kind: api.SignWord, Text: text, At: at}
}

func name(at int, text string) api.Sign {
	return api.Sign{Kind: api.SignName, Text: text, At: at}
}

func mark(at int, text string) api.Sign {
	return api.Sign{Kind: api.SignMark, Text: text, At: at}
}

// signs must be what a text has.
func signs(t *testing.T, s string, want ...api.Sign) {
	t.Helper()
	if l, at, e := token.Signs(s); !slices.Equal(l, want) || at != 0 || e != api.OK {
		t.Errorf("Signs(%.60q): %.300v, %d, %d, want %.300v", s, l, at, e, want)
	}
}

// fault must be the place of what is no sign of a text.
func fault(t *testing.T, s string, want int) {
	t.Helper()
	if l, at, e := token.Signs(s); len(l) != 0 || at != want || e != api.ErrSign {
		t.Errorf("Signs(%.60q): %.300v, %d, %d, want ErrSign at %d", s, l, at, e, want)
	}
}

// tooLong must be what a text is taken for.
func tooLong(t *testing.T, s string) {
	t.Helper()
	if l, at, e := token.Signs(s); len(l) != 0 || at != 0 || e != api.ErrArg {
		t.Errorf("Signs of %d bytes: %d signs, %d, %d, want ErrArg", len(s), len(l), at, e)
	}
}

// byteOf is a text of one byte; not a rune, as those above 127 have two bytes.
func byteOf(b int) string {
	return string([]byte{byte(b)})
}

// noSigns are bytes of which none begins a sign, those next to the ones that do among them.
func noSigns() []string {
	l := []string{"\x00", "\x08", "\x0b", "\r", "\x1f", "!", "'", ",", ";", ">", "@", "A", "Z", "^", "_", "`", "~", "\x7f", "\x80", "\xa0", "\xc3", "\xff"}
	return append(l, "\"", "#", "$", "%", "&", "<", "=", "[", "\\", "]")
}

// The chapter's example.
func TestExample(t *testing.T) {
	signs(t, "?x p+ ?y", name(0, "x"), word(3, "p"), mark(4, "+"), name(6, "y"))
}

// To1: the kind, text and place of every sign of whole requests.
func TestRequests(t *testing.T) {
	signs(t, "select ?x where { ?x p/q* bob }",
		word(0, "select"), name(7, "x"), word(10, "where"), mark(16, "{"), name(18, "x"), word(21, "p"), mark(22, "/"), word(23, "q"),
		mark(24, "*"), word(26, "bob"), mark(30, "}"))
	signs(t, "insert ann p bob . delete ann q cat",
		word(0, "insert"), word(7, "ann"), word(11, "p"), word(13, "bob"), mark(17, "."), word(19, "delete"), word(26, "ann"), word(30, "q"), word(32, "cat"))
	signs(t, "select?x where{?x(a|b+)?-:9.\n\t?x a?/b?0?}",
		word(0, "select"), name(6, "x"), word(9, "where"), mark(14, "{"), name(15, "x"), mark(17, "("), word(18, "a"), mark(19, "|"), word(20, "b"),
		mark(21, "+"), mark(22, ")"), name(23, "-:9"), mark(27, "."), name(30, "x"), word(33, "a"), mark(34, "?"), mark(35, "/"), word(36, "b"),
		name(37, "0"), mark(39, "?"), mark(40, "}"))
	signs(t, "where insert 12 -3 a:b ? 7", word(0, "where"), word(6, "insert"), word(13, "12"), word(16, "-3"), word(19, "a:b"), mark(23, "?"), word(25, "7"))
}

// To1: texts without signs: the empty one, and all of up to eight blanks, tabs and newlines.
func TestNothing(t *testing.T) {
	last := []string{""}
	for range 9 {
		var next []string
		for _, s := range last {
			signs(t, s)
			for i := range len(betweens) {
				next = append(next, s+betweens[i:i+1])
			}
		}
		last = next
	}
	for i := range len(betweens) {
		signs(t, strings.Repeat(betweens[i:i+1], 4096))
	}
}

// To1: each of the 256 bytes alone.
func TestByteAlone(t *testing.T) {
	count := map[string]int{}
	for b := range 256 {
		s := byteOf(b)
		switch {
		case only(wordBytes, s):
			signs(t, s, word(0, s))
			count["word"]++
		case only(marks, s):
			signs(t, s, mark(0, s))
			count["mark"]++
		case only(betweens, s):
			signs(t, s)
			count["between"]++
		default:
			fault(t, s, 0)
			count["none"]++
		}
	}
	if count["word"] != 26+10+2 || count["mark"] != 10 || count["between"] != 3 || count["none"] != 205 {
		t.Errorf("bytes: %v", count)
	}
	for _, s := range noSigns() {
		fault(t, s, 0)
	}
}

// To1: each of the 256 bytes between two words, without and with blanks around it.
func TestByteBetween(t *testing.T) {
	for b := range 256 {
		s := byteOf(b)
		tight, wide := "ab"+s+"cd", "ab "+s+" cd"
		switch {
		case only(wordBytes, s):
			signs(t, tight, word(0, tight))
			signs(t, wide, word(0, "ab"), word(3, s), word(5, "cd"))
		case s == "?":
			signs(t, tight, word(0, "ab"), name(2, "cd"))
			signs(t, wide, word(0, "ab"), mark(3, "?"), word(5, "cd"))
		case only(marks, s):
			signs(t, tight, word(0, "ab"), mark(2, s), word(3, "cd"))
			signs(t, wide, word(0, "ab"), mark(3, s), word(5, "cd"))
		case only(betweens, s):
			signs(t, tight, word(0, "ab"), word(3, "cd"))
			signs(t, wide, word(0, "ab"), word(5, "cd"))
		default:
			fault(t, tight, 2)
			fault(t, wide, 3)
		}
	}
}

// To1: each of the 256 bytes between two names.
func TestByteBetweenNames(t *testing.T) {
	for b := range 256 {
		s := byteOf(b)
		text := "?ab" + s + "?cd"
		switch {
		case only(wordBytes, s):
			signs(t, text, name(0, "ab"+s), name(4, "cd"))
		case only(marks, s):
			signs(t, text, name(0, "ab"), mark(3, s), name(4, "cd"))
		case only(betweens, s):
			signs(t, text, name(0, "ab"), name(4, "cd"))
		default:
			fault(t, text, 3)
		}
	}
}

// To1: marks side by side, up to three, with something between and without.
func TestMarks(t *testing.T) {
	for i := range len(marks) {
		a := marks[i : i+1]
		signs(t, a, mark(0, a))
		signs(t, "\n"+a+" ", mark(1, a))
		for j := range len(marks) {
			b := marks[j : j+1]
			signs(t, a+b, mark(0, a), mark(1, b))
			signs(t, a+"\t"+b, mark(0, a), mark(2, b))
			for k := range len(marks) {
				c := marks[k : k+1]
				signs(t, a+b+c, mark(0, a), mark(1, b), mark(2, c))
			}
		}
	}
	signs(t, marks+marks, append(marksAt(0), marksAt(10)...)...)
}

// marksAt are all marks, from a place on.
func marksAt(at int) (l []api.Sign) {
	for i := range len(marks) {
		l = append(l, mark(at+i, marks[i:i+1]))
	}
	return l
}

// To1: each mark side by side with words and names.
func TestMarkBesides(t *testing.T) {
	for i := range len(marks) {
		m := marks[i : i+1]
		signs(t, "ab"+m, word(0, "ab"), mark(2, m))
		signs(t, "?ab"+m, name(0, "ab"), mark(3, m))
		signs(t, m+"?ab", mark(0, m), name(1, "ab"))
		signs(t, m+" ab", mark(0, m), word(2, "ab"))
		signs(t, "ab"+m+"?cd", word(0, "ab"), mark(2, m), name(3, "cd"))
		if m == "?" {
			signs(t, m+"ab", name(0, "ab"))
			signs(t, "?ab"+m+"cd", name(0, "ab"), name(3, "cd"))
			signs(t, m+"ab"+m, name(0, "ab"), mark(3, m))
			continue
		}
		signs(t, m+"ab", mark(0, m), word(1, "ab"))
		signs(t, "?ab"+m+"cd", name(0, "ab"), mark(3, m), word(4, "cd"))
		signs(t, m+"ab"+m, mark(0, m), word(1, "ab"), mark(3, m))
	}
}

// runs are word bytes of a length: each alike, and mixed.
func runs(length int) []string {
	var l []string
	for i := range len(wordBytes) {
		l = append(l, strings.Repeat(wordBytes[i:i+1], length), filled(wordBytes[i:]+wordBytes[:i], length))
	}
	return l
}

// To1: words and names of 1 to 16 word bytes, at the beginning, in the middle and at the end of a text.
func TestLengths(t *testing.T) {
	for length := 1; length <= 16; length++ {
		for _, w := range runs(length) {
			signs(t, w, word(0, w))
			signs(t, w+" b", word(0, w), word(length+1, "b"))
			signs(t, w+".", word(0, w), mark(length, "."))
			signs(t, "a "+w+"\tb", word(0, "a"), word(2, w), word(length+3, "b"))
			signs(t, "("+w+")", mark(0, "("), word(1, w), mark(length+1, ")"))
			signs(t, "a\n"+w, word(0, "a"), word(2, w))
			signs(t, "?"+w, name(0, w))
			signs(t, "?"+w+" b", name(0, w), word(length+2, "b"))
			signs(t, "a?"+w+"?", word(0, "a"), name(1, w), mark(length+2, "?"))
			signs(t, "a \n?"+w+" b", word(0, "a"), name(3, w), word(length+5, "b"))
			signs(t, "?a?"+w, name(0, "a"), name(2, w))
			signs(t, w+"?"+w+"/"+w, word(0, w), name(length, w), mark(2*length+1, "/"), word(2*length+2, w))
		}
	}
}

// To1: words and names of 17 word bytes and more; the place is their first byte's.
func TestTooLong(t *testing.T) {
	for _, length := range []int{17, 18, 31, 32, 33, 255, 256, 257, 272, 4000} {
		for _, w := range runs(length) {
			fault(t, w, 0)
			fault(t, w+" b", 0)
			fault(t, w+"?x", 0)
			fault(t, "a "+w+"\tb", 2)
			fault(t, "("+w+")", 1)
			fault(t, "a\n"+w, 2)
			fault(t, "?"+w, 0)
			fault(t, "?"+w+" b", 0)
			fault(t, "a?"+w+"?", 1)
			fault(t, "a \n?"+w+" b", 3)
			fault(t, "?a?"+w, 2)
			fault(t, "??"+w, 1)
			fault(t, "? "+w, 2)
		}
	}
	for count := 1; count <= 200; count++ {
		ahead := strings.Repeat(strings.Repeat("w", 16)+" ", count)
		fault(t, ahead+strings.Repeat("w", 17), 17*count)
		fault(t, ahead+"?"+strings.Repeat("w", 17), 17*count)
	}
}

// To1: what a question mark begins, by what stands right behind it.
func TestQuestion(t *testing.T) {
	for i := range len(wordBytes) {
		b := wordBytes[i : i+1]
		signs(t, "?"+b, name(0, b))
		signs(t, "a ?"+b+"x?", word(0, "a"), name(2, b+"x"), mark(5, "?"))
	}
	for i := range len(betweens) {
		b := betweens[i : i+1]
		signs(t, "?"+b, mark(0, "?"))
		signs(t, "?"+b+"x", mark(0, "?"), word(2, "x"))
		signs(t, "p?"+b+"?x", word(0, "p"), mark(1, "?"), name(3, "x"))
	}
	for i := range len(marks) - 1 {
		b := marks[i : i+1]
		signs(t, "?"+b, mark(0, "?"), mark(1, b))
		signs(t, "?"+b+"x", mark(0, "?"), mark(1, b), word(2, "x"))
	}
	for _, b := range noSigns() {
		fault(t, "?"+b, 1)
		fault(t, "?"+b+"x", 1)
		fault(t, "?x"+b, 2)
	}
	signs(t, "?", mark(0, "?"))
	signs(t, "??", mark(0, "?"), mark(1, "?"))
	signs(t, "??x", mark(0, "?"), name(1, "x"))
	signs(t, "???x?", mark(0, "?"), mark(1, "?"), name(2, "x"), mark(4, "?"))
	signs(t, "p?", word(0, "p"), mark(1, "?"))
	signs(t, "?x?y??z", name(0, "x"), name(2, "y"), mark(4, "?"), name(5, "z"))
}

// To1: of several faults, the first one's place is told, of whatever kinds they are.
func TestSeveralFaults(t *testing.T) {
	faults := append(noSigns(), strings.Repeat("a", 17), "?"+strings.Repeat("0", 17), strings.Repeat("-", 300))
	for _, a := range faults {
		for _, b := range faults {
			fault(t, a+" "+b, 0)
			fault(t, "ab "+a+" cd "+b, 3)
			fault(t, "?x{\n"+a+"}"+b+"\n"+a, 4)
			fault(t, " \t\n"+a+"\t"+b, 3)
		}
	}
	fault(t, ";;;", 0)
	fault(t, "a;b;c", 1)
	fault(t, strings.Repeat("a", 17)+";", 0)
	fault(t, ";"+strings.Repeat("a", 17), 0)
	fault(t, strings.Repeat("a", 16)+";"+strings.Repeat("a", 17), 16)
	fault(t, strings.Repeat("a", 16)+"A"+strings.Repeat("a", 17), 16)
	fault(t, "?"+strings.Repeat("a", 16)+"A", 17)
}

// To1: one fault of each kind at each place of a long text.
func TestFaultAtEachPlace(t *testing.T) {
	for at := range 4096 {
		fault(t, strings.Repeat(".", at)+"_"+strings.Repeat(" ", 4095-at), at)
		if at <= 4096-18 {
			fault(t, strings.Repeat("\n", at)+"?"+strings.Repeat("z", 17)+strings.Repeat("*", 4096-18-at), at)
		}
	}
}

// filled is a text of a length, of one piece again and again.
func filled(piece string, length int) string {
	return strings.Repeat(piece, length/len(piece)+1)[:length]
}

// To1: texts of 4095, 4096 and 4097 bytes; beyond 4096, ErrArg ahead of all else.
func TestTextLength(t *testing.T) {
	pieces := []string{" ", "\n", ".", "?", "?x", "a ", "ab/", "?" + strings.Repeat("n", 16), strings.Repeat("w", 16) + "\t", "select ?x where { ?x p+ ?y } "}
	for _, piece := range pieces {
		for _, length := range []int{4000, 4095, 4096} {
			s := filled(piece, length)
			l, at, e := token.Signs(s)
			if at != 0 || e != api.OK {
				t.Errorf("Signs of %d bytes of %q: %d, %d", length, piece, at, e)
			}
			stand(t, s, l)
		}
	}
	bad := []string{";", "\xff", "\x00", "w", "?w", "a;", strings.Repeat("w", 17) + " ", "?" + strings.Repeat("w", 17)}
	for _, piece := range append(pieces, bad...) {
		for _, length := range []int{4097, 4098, 4112, 8192, 1 << 16, 1<<16 + 1, 1 << 20} {
			tooLong(t, filled(piece, length))
		}
	}
	for _, length := range []int{4095, 4096} {
		fault(t, strings.Repeat(";", length), 0)
		fault(t, strings.Repeat("w", length), 0)
		fault(t, "?"+strings.Repeat("w", length-1), 0)
		fault(t, strings.Repeat(" ", length-1)+";", length-1)
		fault(t, strings.Repeat(".", length-17)+strings.Repeat("w", 17), length-17)
		signs(t, strings.Repeat(" ", length-1)+"w", word(length-1, "w"))
		signs(t, strings.Repeat(" ", length-1)+"?", mark(length-1, "?"))
		signs(t, strings.Repeat("\t", length-2)+"?w", name(length-2, "w"))
		signs(t, strings.Repeat("\n", length-16)+strings.Repeat("w", 16), word(length-16, strings.Repeat("w", 16)))
		signs(t, "w"+strings.Repeat(" ", length-1), word(0, "w"))
	}
	tooLong(t, ";"+strings.Repeat(" ", 4096))
	tooLong(t, strings.Repeat(" ", 4096)+";")
	tooLong(t, "w"+strings.Repeat(" ", 4096))
}

// To1: as many signs as a text can have.
func TestMostSigns(t *testing.T) {
	l, at, e := token.Signs(strings.Repeat("?", 4096))
	if len(l) != 4096 || at != 0 || e != api.OK {
		t.Fatalf("%d signs, %d, %d", len(l), at, e)
	}
	for i, g := range l {
		if g != mark(i, "?") {
			t.Fatalf("sign %d: %v", i, g)
		}
	}
}

// To2: letters, blanks and marks of wider alphabets are none, and places are counted by bytes.
func TestWideRunes(t *testing.T) {
	for _, s := range []string{"ä", "\u0085", "\u00a0", "\u2003", "\u3000", "\ufeff", "\uff41", "\uff5b", "？", "٣", "\u212a"} {
		fault(t, s, 0)
		fault(t, "ab"+s+"cd", 2)
		fault(t, "?x "+s, 3)
		fault(t, "?"+s, 1)
		fault(t, s[:1], 0)
	}
}

// written is a sign as it stands in a text.
func written(g api.Sign) string {
	if g.Kind == api.SignName {
		return "?" + g.Text
	}
	return g.Text
}

// stand tells whether signs make a text, with what may stand between them; each is one, and as long as may be.
func stand(t *testing.T, s string, l []api.Sign) {
	t.Helper()
	end := 0
	for _, g := range l {
		written := written(g)
		if g.At < end || g.At+len(written) > len(s) || s[g.At:g.At+len(written)] != written {
			t.Fatalf("Signs(%.60q): %v does not stand there", s, g)
		}
		if !only(betweens, s[end:g.At]) {
			t.Fatalf("Signs(%.60q): %.60q is ahead of %v", s, s[end:g.At], g)
		}
		if !isSign(g.Kind, written) || len(g.Text) > 16 {
			t.Fatalf("Signs(%.60q): %v is none", s, g)
		}
		end = g.At + len(written)
		if longer(s[g.At:], len(written)) {
			t.Fatalf("Signs(%.60q): %v could be longer", s, g)
		}
	}
	if !only(betweens, s[end:]) {
		t.Fatalf("Signs(%.60q): %.60q is behind the last one", s, s[end:])
	}
}

// longer tells whether a text begins with a sign that has more bytes; one more is enough to ask for, as each sign with word bytes behind its first one is a sign without the last of them too.
func longer(s string, length int) bool {
	if length == len(s) {
		return false
	}
	more := s[:length+1]
	return isSign(api.SignWord, more) || isSign(api.SignName, more) || isSign(api.SignMark, more)
}

// holds tells whether a text is answered as To1 and To2 say, by what may be told of every answer.
func holds(t *testing.T, s string) {
	t.Helper()
	l, at, e := token.Signs(s)
	again, atAgain, eAgain := token.Signs(s)
	if !slices.Equal(l, again) || at != atAgain || e != eAgain {
		t.Fatalf("Signs(%.60q): two answers", s)
	}
	switch {
	case e == api.OK:
		if at != 0 || len(s) > 4096 {
			t.Fatalf("Signs of %d bytes: OK, %d", len(s), at)
		}
		stand(t, s, l)
	case e == api.ErrSign:
		if len(l) != 0 || len(s) > 4096 || at < 0 || at >= len(s) {
			t.Fatalf("Signs of %d bytes: %d signs, ErrSign at %d", len(s), len(l), at)
		}
		atFault(t, s, at)
	default:
		if e != api.ErrArg || len(l) != 0 || at != 0 || len(s) <= 4096 {
			t.Fatalf("Signs of %d bytes: %d signs, %d, %d", len(s), len(l), at, e)
		}
	}
}

// atFault tells whether all is well ahead of a place, and nothing that may be begins there.
func atFault(t *testing.T, s string, at int) {
	t.Helper()
	l, _, e := token.Signs(s[:at])
	if e != api.OK {
		t.Fatalf("Signs(%.60q): ErrSign at %d, but there is a fault ahead", s, at)
	}
	stand(t, s[:at], l)
	if len(l) > 0 {
		last := l[len(l)-1]
		if length := len(written(last)); at == last.At+length && longer(s[last.At:], length) {
			t.Fatalf("Signs(%.60q): ErrSign at %d, but %v goes on there", s, at, last)
		}
	}
	begun := strings.TrimPrefix(s[at:], "?")
	run := len(begun) - len(strings.TrimLeft(begun, wordBytes))
	if only(wordBytes+marks+betweens, s[at:at+1]) && run <= 16 {
		t.Fatalf("Signs(%.60q): ErrSign at %d, where a sign begins", s, at)
	}
}

// To1, To2: all short texts of few bytes, one or two of each kind.
func TestAllShort(t *testing.T) {
	const few = "a?9{ \n;\xff"
	last := []string{""}
	for range 6 {
		var next []string
		for _, s := range last {
			for i := range len(few) {
				holds(t, s+few[i:i+1])
				next = append(next, s+few[i:i+1])
			}
		}
		last = next
	}
}

// To1, To2: all texts of two bytes.
func TestAllPairs(t *testing.T) {
	for a := range 256 {
		for b := range 256 {
			s := byteOf(a) + byteOf(b)
			holds(t, s)
			same(t, s)
		}
	}
}

// oneSign is what signs are, by the library's expressions: the longest of what may be.
var oneSign = regexp.MustCompile(`^(?:(\?[a-z0-9:-]+)|([a-z0-9:-]+)|([{}()./|*+?]))`)

// signsBy are a text's signs as oneSign finds them.
func signsBy(s string) (l []api.Sign, at int, e api.Errno) {
	if len(s) > 4096 {
		return nil, 0, api.ErrArg
	}
	for {
		at = len(s) - len(strings.TrimLeft(s[at:], betweens))
		if at == len(s) {
			return l, 0, api.OK
		}
		m := oneSign.FindStringSubmatch(s[at:])
		switch {
		case m == nil || len(m[1]) > 17 || len(m[2]) > 16:
			return nil, at, api.ErrSign
		case m[1] != "":
			l = append(l, name(at, m[1][1:]))
		case m[2] != "":
			l = append(l, word(at, m[2]))
		default:
			l = append(l, mark(at, m[3]))
		}
		at += len(m[0])
	}
}

// same tells whether a text is answered as signsBy does.
func same(t *testing.T, s string) {
	t.Helper()
	l, at, e := token.Signs(s)
	want, wantAt, wantE := signsBy(s)
	if !slices.Equal(l, want) || at != wantAt || e != wantE {
		t.Fatalf("Signs(%.60q): %.300v, %d, %d, want %.300v, %d, %d", s, l, at, e, want, wantAt, wantE)
	}
}

// chance is a text that looks like chance, of bytes of some kinds.
func chance(r *rand.Rand, kind string, length int) string {
	b := make([]byte, length)
	for i := range b {
		b[i] = kind[r.Intn(len(kind))]
	}
	return string(b)
}

// To1, To2: many texts that look like chance and are the same in every run, those of all bytes among them.
func TestChance(t *testing.T) {
	r := rand.New(rand.NewSource(81))
	every := make([]byte, 256)
	for b := range every {
		every[b] = byte(b)
	}
	kinds := []string{string(every), wordBytes + marks + betweens, "ab" + marks + betweens, "abcdefghi ", "abcdefghi?", "? a", wordBytes + betweens + betweens + betweens + "?" + ";"}
	for _, kind := range kinds {
		for range 3000 {
			s := chance(r, kind, r.Intn(60))
			holds(t, s)
			same(t, s)
		}
		for range 30 {
			s := chance(r, kind, 4000+r.Intn(200))
			holds(t, s)
			same(t, s)
		}
	}
	for range 300 {
		s := chance(r, marks+betweens+"z", 4096)
		holds(t, s)
		same(t, s)
	}
}

// To1: signs that are written down, with what may stand between them, are read again as they were.
func TestWritten(t *testing.T) {
	r := rand.New(rand.NewSource(82))
	for range 3000 {
		var want []api.Sign
		s := chance(r, betweens, r.Intn(4))
		for range r.Intn(80) {
			g := []api.Sign{word(0, chance(r, wordBytes, 1+r.Intn(16))), name(0, chance(r, wordBytes, 1+r.Intn(16))), mark(0, chance(r, marks, 1))}[r.Intn(3)]
			// A word right behind word bytes, or behind a question mark, would be one with them.
			if g.Kind == api.SignWord && s != "" && only(wordBytes+"?", s[len(s)-1:]) {
				s += chance(r, betweens, 1)
			}
			g.At = len(s)
			want = append(want, g)
			s += written(g) + chance(r, betweens, r.Intn(3))
		}
		signs(t, s, want...)
	}
}

// R2: what is answered beside an error and the place, and the place where there is no fault.
func TestBesideErrors(t *testing.T) {
	for _, s := range []string{"a b ;", "?x p+ ?y _", ".", "", " ", strings.Repeat(". ", 2048), strings.Repeat(". ", 2048) + ".", "a b c " + strings.Repeat("d", 17)} {
		for range 3 {
			l, at, e := token.Signs(s)
			if e != api.OK && len(l) != 0 {
				t.Errorf("Signs(%.60q): %d signs beside %d", s, len(l), e)
			}
			if e != api.ErrSign && at != 0 {
				t.Errorf("Signs(%.60q): %d beside %d", s, at, e)
			}
		}
	}
}

// R3: an answer is new memory: it shares none with the text, and none with another answer.
func TestMemory(t *testing.T) {
	bytes := []byte("select ?x where { ?x p/q* bob . ?x r? ann }")
	s := string(bytes)
	first, _, _ := token.Signs(s)
	second, _, _ := token.Signs(s)
	want := slices.Clone(second)
	begin := uintptr(unsafe.Pointer(unsafe.StringData(s)))
	for _, g := range first {
		if p := uintptr(unsafe.Pointer(unsafe.StringData(g.Text))); p >= begin && p < begin+uintptr(len(s)) {
			t.Errorf("%v is a piece of the text", g)
		}
	}
	for i := range first {
		first[i] = api.Sign{}
	}
	_ = append(first[:1], word(9, "y"))
	if third, _, _ := token.Signs(s); !slices.Equal(second, want) || !slices.Equal(third, want) {
		t.Error("two answers share memory")
	}
	if s != string(bytes) {
		t.Error("the text was changed")
	}
}

// R3: a text that is a piece of another one is not read beyond its end.
func TestPieces(t *testing.T) {
	all := "ab?cd{e;" + strings.Repeat("w", 20)
	signs(t, all[:1], word(0, "a"))
	signs(t, all[:3], word(0, "ab"), mark(2, "?"))
	signs(t, all[1:4], word(0, "b"), name(1, "c"))
	signs(t, all[:7], word(0, "ab"), name(2, "cd"), mark(5, "{"), word(6, "e"))
	signs(t, all[8:24], word(0, strings.Repeat("w", 16)))
	fault(t, all[8:25], 0)
	long := strings.Repeat(" ", 4096) + ";"
	signs(t, long[:4096])
	fault(t, long[1:], 4095)
}

// R4: what is answered hangs on the text alone, whatever was asked ahead.
func TestSideBySide(t *testing.T) {
	texts := []string{"", "?x p+ ?y", "a;", strings.Repeat("a", 17), strings.Repeat(" ", 4097), "select ?x{p*\n.?}", "?"}
	for _, a := range texts {
		for _, b := range texts {
			l, at, e := token.Signs(a)
			token.Signs(b)
			again, atAgain, eAgain := token.Signs(strings.Clone(a))
			if !slices.Equal(l, again) || at != atAgain || e != eAgain {
				t.Errorf("Signs(%.60q), behind that of %.60q: %v, %d, %d", a, b, again, atAgain, eAgain)
			}
		}
	}
}

// FuzzSigns: whatever a text is, it is answered as the chapter says.
func FuzzSigns(f *testing.F) {
	for _, s := range []string{"", "?x p+ ?y", "select ?x where { ?x p/q* bob }", "insert ann p bob . delete ann q cat", "a ;", "??x?", strings.Repeat("a", 17), "?" + strings.Repeat("a", 17), strings.Repeat(" ", 4097)} {
		f.Add(s)
	}
	f.Fuzz(func(t *testing.T, s string) {
		holds(t, s)
		same(t, s)
	})
}
