package octet_test

import (
	"math"
	"math/big"
	"slices"
	"strings"
	"testing"

	"sinew/api"
	"sinew/octet"
)

// wantNum is a number's bytes, reckoned by another way than the program's.
func wantNum(n int) string {
	b := big.NewInt(int64(n)).Bytes()
	return string(append([]byte{byte(len(b))}, b...))
}

// edgeNums are the numbers around which the count of bytes changes, and some between.
func edgeNums() []int {
	l := []int{0, 1, 2, 8, 9, 10, 127, 128, 300, 4096, 4097, math.MaxInt32, math.MaxInt - 1, math.MaxInt}
	for k := 1; k < 8; k++ {
		p := 1 << (8 * k)
		l = append(l, p-1, p, p+1, p<<7-1, p>>1)
	}
	return l
}

// behinds are bytes that may stand behind what is read.
func behinds() []string {
	return []string{"", "x", "\x00", "\x01", "\x09", "\xff\xff\xff\xff\xff\xff\xff\xff\xff", strings.Repeat("\x01\x01", 9)}
}

func refusedNum(t *testing.T, s string, want api.Errno) {
	t.Helper()
	if n, used, e := octet.Num(s); n != 0 || used != 0 || e != want {
		t.Errorf("Num(%.20q): %d %d %d, want error %d and noughts", s, n, used, e, want)
	}
}

func refusedStr(t *testing.T, s string, want api.Errno) {
	t.Helper()
	if x, used, e := octet.Str(s); x != "" || used != 0 || e != want {
		t.Errorf("Str(%.20q): %.20q %d %d, want error %d and zero values", s, x, used, e, want)
	}
}

func refusedList(t *testing.T, s string, want api.Errno) {
	t.Helper()
	if l, used, e := octet.List(s); len(l) != 0 || used != 0 || e != want {
		t.Errorf("List(%.20q): %d texts, %d %d, want error %d and zero values", s, len(l), used, e, want)
	}
}

func refusedPut(t *testing.T, s string, e, want api.Errno) {
	t.Helper()
	if s != "" || e != want {
		t.Errorf("%d bytes, error %d, want none and error %d", len(s), e, want)
	}
}

// putStr is PutStr of what it must take.
func putStr(t *testing.T, s string) string {
	t.Helper()
	b, e := octet.PutStr(s)
	if e != api.OK {
		t.Fatalf("PutStr of %d bytes: %d", len(s), e)
	}
	return b
}

// putList is PutList of what it must take.
func putList(t *testing.T, l []string) string {
	t.Helper()
	b, e := octet.PutList(l)
	if e != api.OK {
		t.Fatalf("PutList of %d texts: %d", len(l), e)
	}
	return b
}

// badNums are bytes that Num refuses, with what it answers.
func badNums() map[string]api.Errno {
	m := map[string]api.Errno{
		"":                                     api.ErrCut,
		"\x01":                                 api.ErrCut,
		"\x02\x01":                             api.ErrCut,
		"\x08\x01\x02\x03":                     api.ErrCut,
		"\x08\x7f\xff\xff\xff\xff\xff\xff":     api.ErrCut,
		"\x01\x00":                             api.ErrNum,
		"\x02\x00\x01":                         api.ErrNum,
		"\x03\x00\x00\x00":                     api.ErrNum,
		"\x08\x00\xff\xff\xff\xff\xff\xff\xff": api.ErrNum,
		"\x08\x80\x00\x00\x00\x00\x00\x00\x00": api.ErrNum,
		"\x08\x80\x00\x00\x00\x00\x00\x00\x01": api.ErrNum,
		"\x08\xff\xff\xff\xff\xff\xff\xff\xff": api.ErrNum,
		"\x09\x01\x02\x03\x04\x05\x06\x07\x08\x09": api.ErrNum,
		"\x09\x00\x00\x00\x00\x00\x00\x00\x00\x01": api.ErrNum,
		"\x0a\x01": api.ErrNum,
		"\x80":     api.ErrNum,
		"\xff":     api.ErrNum,
		// A first byte above 8 is named ahead of bytes that end too soon, and these ahead of the rest.
		"\x09":         api.ErrNum,
		"\x02\x00":     api.ErrCut,
		"\x08\x00":     api.ErrCut,
		"\x08\xff\xff": api.ErrCut,
	}
	return m
}

// Oc1: a number's bytes.
func TestPutNum(t *testing.T) {
	for _, n := range edgeNums() {
		if s, e := octet.PutNum(n); s != wantNum(n) || e != api.OK {
			t.Errorf("PutNum(%d): %q %d, want %q", n, s, e, wantNum(n))
		}
	}
	if s, _ := octet.PutNum(300); s != "\x02\x01\x2c" {
		t.Errorf("PutNum(300): %q", s)
	}
	if s, _ := octet.PutNum(math.MaxInt); s != "\x08\x7f\xff\xff\xff\xff\xff\xff\xff" {
		t.Errorf("PutNum of the greatest: %q", s)
	}
}

// Oc1: no bytes for numbers below 0.
func TestPutNumBelowNought(t *testing.T) {
	for _, n := range []int{-1, -2, -255, -256, -300, math.MinInt32, math.MinInt + 1, math.MinInt} {
		s, e := octet.PutNum(n)
		refusedPut(t, s, e, api.ErrArg)
	}
}

// Oc1, Oc3: numbers are read back, whatever stands behind them.
func TestNum(t *testing.T) {
	for _, n := range edgeNums() {
		for _, b := range behinds() {
			s := wantNum(n)
			if m, used, e := octet.Num(s + b); m != n || used != len(s) || e != api.OK {
				t.Errorf("Num(%q): %d %d %d, want %d %d", s+b, m, used, e, n, len(s))
			}
		}
	}
}

// Oc1: what Num refuses, the error that is named first, and noughts beside it (R2).
func TestNumRefused(t *testing.T) {
	for s, e := range badNums() {
		refusedNum(t, s, e)
	}
}

// Oc1: a first byte of 0 to 8 says how many follow, any other is none.
func TestNumFirstByte(t *testing.T) {
	for c := range 256 {
		s := string([]byte{byte(c)})
		ones := s + strings.Repeat("\x01", 300)
		switch n, used, e := octet.Num(ones); {
		case c > 8:
			refusedNum(t, s, api.ErrNum)
			refusedNum(t, ones, api.ErrNum)
		case e != api.OK || used != 1+c || wantNum(n) != ones[:1+c]:
			t.Errorf("Num(%q..): %d %d %d", ones[:1+c], n, used, e)
		case c > 0:
			refusedNum(t, s, api.ErrCut)
			refusedNum(t, ones[:c], api.ErrCut)
			refusedNum(t, s+strings.Repeat("\x00", 300), api.ErrNum)
		}
	}
}

// Oc1: bytes that end too soon, at every place.
func TestNumCut(t *testing.T) {
	for _, n := range edgeNums() {
		s := wantNum(n)
		for i := range len(s) {
			refusedNum(t, s[:i], api.ErrCut)
		}
	}
}

// textsOfAllKinds are texts that may be.
func textsOfAllKinds() []string {
	var all [256]byte
	for i := range all {
		all[i] = byte(i)
	}
	return []string{"", "h", "hi", "\x00", "\x00\x00\x00", "\x09", "\xff\xfe", "ä\n ?", string(all[:]), string(all[:255]),
		strings.Repeat("y", 300), strings.Repeat("\x00", api.MaxStr-1), strings.Repeat("z", api.MaxStr)}
}

// Oc2: a text's bytes.
func TestPutStr(t *testing.T) {
	for _, s := range textsOfAllKinds() {
		if b := putStr(t, s); b != wantNum(len(s))+s {
			t.Errorf("PutStr of %d bytes begins %.10q", len(s), b)
		}
	}
	if b := putStr(t, "hi"); b != "\x01\x02hi" {
		t.Errorf("PutStr(hi): %q", b)
	}
	if b := putStr(t, strings.Repeat("z", api.MaxStr)); b[:5] != "\x03\x01\x00\x00z" || len(b) != 4+api.MaxStr {
		t.Errorf("PutStr of MaxStr bytes begins %q", b[:5])
	}
}

// Oc2: a text that is too long.
func TestPutStrGreat(t *testing.T) {
	for _, k := range []int{1, 2, 300, api.MaxStr} {
		s, e := octet.PutStr(strings.Repeat("z", api.MaxStr+k))
		refusedPut(t, s, e, api.ErrGreat)
	}
}

// Oc2, Oc3: texts are read back, whatever stands behind them.
func TestStr(t *testing.T) {
	for _, s := range textsOfAllKinds() {
		b := wantNum(len(s)) + s
		for _, x := range behinds() {
			if got, used, e := octet.Str(b + x); got != s || used != len(b) || e != api.OK {
				t.Errorf("Str of %d bytes and %q: %d bytes, %d %d", len(s), x, len(got), used, e)
			}
		}
	}
}

// Oc2: what Str refuses.
func TestStrRefused(t *testing.T) {
	for s, e := range badNums() {
		refusedStr(t, s, e)
	}
	for _, n := range []int{api.MaxStr + 1, api.MaxStr + 2, 1 << 24, 1 << 32, 1 << 62, math.MaxInt} {
		refusedStr(t, wantNum(n), api.ErrGreat) // ahead of the bytes that lack
		refusedStr(t, wantNum(n)+"hi", api.ErrGreat)
		refusedStr(t, wantNum(n)+strings.Repeat("z", api.MaxStr+2), api.ErrGreat)
	}
	refusedStr(t, wantNum(api.MaxStr), api.ErrCut)
	refusedStr(t, wantNum(api.MaxStr)+strings.Repeat("z", api.MaxStr-1), api.ErrCut)
}

// Oc2: a text's bytes that end too soon, at every place.
func TestStrCut(t *testing.T) {
	for _, s := range []string{"", "h", "hi", strings.Repeat("\x00", 5), strings.Repeat("y", 300)} {
		b := wantNum(len(s)) + s
		for i := range len(b) {
			refusedStr(t, b[:i], api.ErrCut)
		}
	}
}

// wantList is a list's bytes, put together from the other parts.
func wantList(l []string) string {
	s := wantNum(len(l))
	for _, t := range l {
		s += wantNum(len(t)) + t
	}
	return s
}

// listsOfAllKinds are lists that may be.
func listsOfAllKinds() [][]string {
	long := make([]string, api.MaxTexts)
	for i := range long {
		long[i] = strings.Repeat("w", i%5)
	}
	return [][]string{nil, {}, {""}, {"", ""}, {"hi"}, {"hi", "", "x"}, {"\x00", "\x09", "\xff"}, {"a", "a", "a"},
		textsOfAllKinds(), make([]string, 255), make([]string, 256), make([]string, api.MaxTexts-1), make([]string, api.MaxTexts), long}
}

// Oc2: a list's bytes.
func TestPutList(t *testing.T) {
	for _, l := range listsOfAllKinds() {
		if b := putList(t, l); b != wantList(l) {
			t.Errorf("PutList of %d texts begins %.20q", len(l), b)
		}
	}
	if b := putList(t, []string{"hi", "", "x"}); b != "\x01\x03\x01\x02hi\x00\x01\x01x" {
		t.Errorf("PutList of three: %q", b)
	}
	if b := putList(t, nil); b != "\x00" {
		t.Errorf("PutList of none: %q", b)
	}
	if b := putList(t, make([]string, api.MaxTexts)); b != "\x02\x10\x00"+strings.Repeat("\x00", api.MaxTexts) {
		t.Errorf("PutList of MaxTexts texts: %d bytes", len(b))
	}
}

// Oc2: too many texts, or one that is too long, wherever it stands.
func TestPutListGreat(t *testing.T) {
	great := strings.Repeat("z", api.MaxStr+1)
	lists := [][]string{make([]string, api.MaxTexts+1), make([]string, api.MaxTexts+2), make([]string, 1<<16),
		{great}, {great, "a"}, {"a", great}, {"a", great, "b"}, slices.Repeat([]string{great}, api.MaxTexts+1)}
	last := make([]string, api.MaxTexts)
	last[api.MaxTexts-1] = great
	for _, l := range append(lists, last) {
		s, e := octet.PutList(l)
		refusedPut(t, s, e, api.ErrGreat)
	}
}

// Oc2, Oc3: lists are read back, whatever stands behind them.
func TestList(t *testing.T) {
	for _, l := range listsOfAllKinds() {
		b := wantList(l)
		for _, x := range behinds() {
			if got, used, e := octet.List(b + x); !slices.Equal(got, l) || used != len(b) || e != api.OK {
				t.Errorf("List of %d texts and %q: %d texts, %d %d", len(l), x, len(got), used, e)
			}
		}
	}
}

// Oc2: what List refuses.
func TestListRefused(t *testing.T) {
	for s, e := range badNums() {
		refusedList(t, s, e)
		for _, ahead := range [][]string{nil, {"a"}, {"", "hi"}} { // as the first text, and behind good ones
			refusedList(t, wantNum(len(ahead)+1)+wantList(ahead)[len(wantNum(len(ahead))):]+s, e)
		}
	}
	for _, n := range []int{api.MaxTexts + 1, api.MaxTexts + 2, 1 << 16, 1 << 32, 1 << 62, math.MaxInt} {
		refusedList(t, wantNum(n), api.ErrGreat) // ahead of the bytes that lack
		refusedList(t, wantNum(n)+"\x09", api.ErrGreat)
		refusedList(t, wantNum(n)+strings.Repeat("\x00", api.MaxTexts+2), api.ErrGreat)
	}
	refusedList(t, wantNum(api.MaxTexts), api.ErrCut)
	refusedList(t, wantNum(api.MaxTexts)+strings.Repeat("\x00", api.MaxTexts-1), api.ErrCut)
}

// Oc2: of several texts that Str refuses, the first says the error.
func TestListFirstRefused(t *testing.T) {
	great := wantNum(api.MaxStr + 1)
	for s, e := range map[string]api.Errno{
		"\x01\x02" + great + "\x09":                            api.ErrGreat,
		"\x01\x02\x09" + great:                                 api.ErrNum,
		"\x01\x03\x01\x01a\x01\x00\x09":                        api.ErrNum,
		"\x01\x03\x01\x01a" + great + "\x01\x00":               api.ErrGreat,
		"\x01\x03\x01\x01a\x01\x05hi":                          api.ErrCut,
		"\x01\x01" + great + strings.Repeat("z", api.MaxStr+1): api.ErrGreat,
	} {
		refusedList(t, s, e)
	}
}

// Oc2: a list's bytes that end too soon, at every place.
func TestListCut(t *testing.T) {
	for _, l := range [][]string{nil, {""}, {"hi", "", "x"}, {"\x00\x00", strings.Repeat("y", 300), ""}, make([]string, 300)} {
		b := wantList(l)
		for i := range len(b) {
			refusedList(t, b[:i], api.ErrCut)
		}
	}
}

// R3: what is handed in is not changed, nor read beyond its end; what is answered is new memory.
func TestListMemory(t *testing.T) {
	whole := []string{"a", "b", "beyond", "beyond"}
	if b := putList(t, whole[:2]); b != "\x01\x02\x01\x01a\x01\x01b" {
		t.Errorf("PutList of two of four: %q", b)
	}
	if !slices.Equal(whole, []string{"a", "b", "beyond", "beyond"}) {
		t.Errorf("PutList changed its list: %q", whole)
	}
	s := putList(t, whole)
	one, _, _ := octet.List(s)
	one[0] = "changed"
	_ = append(one[:1], "changed")
	if two, _, e := octet.List(s); !slices.Equal(two, whole) || e != api.OK {
		t.Errorf("List answers %q behind a change of its earlier answer", two)
	}
}

// onlyForm holds Oc3 against any bytes: what is read from them has no other bytes than those it was read from, and is read from them alone, and from no fewer.
func onlyForm(t *testing.T, s string) {
	t.Helper()
	if n, used, e := octet.Num(s); e == api.OK {
		if b, f := octet.PutNum(n); b != s[:used] || f != api.OK {
			t.Errorf("Num(%.20q) is %d, which is put as %.20q, %d", s, n, b, f)
		}
		if m, k, f := octet.Num(s[:used]); m != n || k != used || f != api.OK {
			t.Errorf("Num(%.20q) alone: %d %d %d", s[:used], m, k, f)
		}
		refusedNum(t, s[:used-1], api.ErrCut)
	} else {
		refusedNum(t, s, e)
	}
	if x, used, e := octet.Str(s); e == api.OK {
		if b, f := octet.PutStr(x); b != s[:used] || f != api.OK {
			t.Errorf("Str(%.20q) is %.20q, which is put as %.20q, %d", s, x, b, f)
		}
		if y, k, f := octet.Str(s[:used]); y != x || k != used || f != api.OK {
			t.Errorf("Str(%.20q) alone: %.20q %d %d", s[:used], y, k, f)
		}
		refusedStr(t, s[:used-1], api.ErrCut)
	} else {
		refusedStr(t, s, e)
	}
	if l, used, e := octet.List(s); e == api.OK {
		if b, f := octet.PutList(l); b != s[:used] || f != api.OK {
			t.Errorf("List(%.20q) is %.20q, which is put as %.20q, %d", s, l, b, f)
		}
		if m, k, f := octet.List(s[:used]); !slices.Equal(m, l) || k != used || f != api.OK {
			t.Errorf("List(%.20q) alone: %.20q %d %d", s[:used], m, k, f)
		}
		refusedList(t, s[:used-1], api.ErrCut)
	} else {
		refusedList(t, s, e)
	}
}

// Oc3: all bytes of up to two, and of up to seven of a few that matter.
func TestOnlyForm(t *testing.T) {
	for i := range 256 {
		for j := range 256 {
			onlyForm(t, string([]byte{byte(i), byte(j)}))
		}
	}
	few := "\x00\x01\x02\x03\xff"
	var grow func(s string)
	grow = func(s string) {
		onlyForm(t, s)
		if len(s) == 7 {
			return
		}
		for i := range len(few) {
			grow(s + few[i:i+1])
		}
	}
	grow("")
}

// Oc3: any bytes at all.
func FuzzOnlyForm(f *testing.F) {
	for s := range badNums() {
		f.Add(s)
	}
	for _, n := range edgeNums() {
		f.Add(wantNum(n))
	}
	for _, s := range textsOfAllKinds() {
		f.Add(wantNum(len(s)) + s)
	}
	for _, l := range listsOfAllKinds() {
		f.Add(wantList(l))
	}
	f.Fuzz(onlyForm)
}
