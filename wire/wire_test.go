package wire_test

import (
	"encoding/binary"
	"hash/crc32"
	"math"
	"math/big"
	"math/bits"
	"math/rand"
	"reflect"
	"slices"
	"strings"
	"testing"

	"sinew/api"
	"sinew/wire"
)

// The chapter's words, said another way than the program's.

func wantNum(n int) string {
	b := big.NewInt(int64(n)).Bytes()
	return string(append([]byte{byte(len(b))}, b...))
}

func wantList(l []string) string {
	s := wantNum(len(l))
	for _, t := range l {
		s += wantNum(len(t)) + t
	}
	return s
}

func wantBody(n api.Note) string {
	parts := []string{wantNum(n.Kind), wantNum(len(n.Nums))}
	for _, v := range n.Nums {
		parts = append(parts, wantNum(v))
	}
	parts = append(parts, wantList(n.Texts), wantNum(len(n.Rows)))
	for _, r := range n.Rows {
		parts = append(parts, wantList(r))
	}
	return strings.Join(parts, "")
}

// wantSum is the sum by the library, which goes through the bits of each byte the other way about.
func wantSum(s string) uint32 {
	b := []byte(s)
	for i := range b {
		b[i] = bits.Reverse8(b[i])
	}
	return bits.Reverse32(crc32.ChecksumIEEE(b))
}

// sealed is any bytes as a body, with the length and the sum that belong to them.
func sealed(body string) string {
	head := binary.BigEndian.AppendUint32(nil, uint32(len(body)))
	head = binary.BigEndian.AppendUint32(head, wantSum(body))
	return string(head) + body
}

// mayBe is the section Words, limit by limit.
func mayBe(n api.Note) bool {
	all := slices.Concat(append([][]string{n.Texts}, n.Rows...)...)
	return n.Kind >= 1 && n.Kind <= 255 &&
		len(n.Nums) <= 64 &&
		!slices.ContainsFunc(n.Nums, func(v int) bool { return v < 0 || v >= 1<<62 }) &&
		len(all) <= 4096 &&
		!slices.ContainsFunc(all, func(t string) bool { return len(t) > 1<<16 }) &&
		len(n.Rows) <= 4096 &&
		len(wantBody(n)) <= 1<<20
}

// laxly reads a body without any limit but those of its bytes: what it reads need not be what they are of.
func laxly(body string) api.Note {
	cut := func(k uint64) string {
		k = min(k, uint64(len(body)))
		s := body[:k]
		body = body[k:]
		return s
	}
	num := func() uint64 {
		v := uint64(0)
		for _, b := range []byte(cut(uint64((cut(1) + "\x00")[0]))) {
			v = v<<8 | uint64(b)
		}
		return v
	}
	list := func() (l []string) {
		for k := num(); k > 0 && body != ""; k-- {
			l = append(l, cut(num()))
		}
		return l
	}
	n := api.Note{Kind: int(num())}
	for k := num(); k > 0 && body != ""; k-- {
		n.Nums = append(n.Nums, int(num()))
	}
	n.Texts = list()
	for k := num(); k > 0 && body != ""; k-- {
		n.Rows = append(n.Rows, list())
	}
	return n
}

// ofNote tells whether bytes are the body of a note that may be, and of which one: bytes have no two forms, so the one that is read laxly must have just them.
func ofNote(body string) (api.Note, bool) {
	n := laxly(body)
	return n, mayBe(n) && wantBody(n) == body
}

// Notes of many kinds.

func same(a, b api.Note) bool {
	return a.Kind == b.Kind && slices.Equal(a.Nums, b.Nums) && slices.Equal(a.Texts, b.Texts) &&
		slices.EqualFunc(a.Rows, b.Rows, slices.Equal)
}

func sameAll(a, b []api.Note) bool { return slices.EqualFunc(a, b, same) }

// of is a list of so many equal things.
func of[T any](count int, v T) []T {
	l := make([]T, count)
	for i := range l {
		l[i] = v
	}
	return l
}

func noise(r *rand.Rand, size int) string {
	b := make([]byte, size)
	r.Read(b)
	return string(b)
}

func noisyList(r *rand.Rand) []string {
	l := make([]string, r.Intn(4))
	for i := range l {
		l[i] = noise(r, r.Intn(9))
	}
	return l
}

// noisyNote looks like chance and is the same in every run.
func noisyNote(seed int64) api.Note {
	r := rand.New(rand.NewSource(seed))
	n := api.Note{Kind: 1 + r.Intn(255), Nums: make([]int, r.Intn(6)), Texts: noisyList(r), Rows: make([][]string, r.Intn(4))}
	for i := range n.Nums {
		n.Nums[i] = int(r.Int63() >> (1 + r.Intn(62)))
	}
	for i := range n.Rows {
		n.Rows[i] = noisyList(r)
	}
	return n
}

// bodySized is a note whose body has just so many bytes.
func bodySized(t *testing.T, size int) api.Note {
	t.Helper()
	n := api.Note{Kind: 7, Nums: []int{5}, Texts: []string{""}, Rows: [][]string{of(15, strings.Repeat("r", 1<<16))}}
	// The length of an empty text has one byte, that of the one which takes its place three.
	n.Texts[0] = strings.Repeat("t", size-len(wantBody(n))-2)
	if got := len(wantBody(n)); got != size {
		t.Fatalf("a body of %d bytes was to have %d", got, size)
	}
	return n
}

func smallNotes() []api.Note {
	l := []api.Note{
		{Kind: 1},
		{Kind: 255},
		{Kind: 3, Nums: []int{300}, Texts: []string{"hi"}, Rows: [][]string{{"a", "b"}, nil}},
		{Kind: 1, Nums: []int{0}},
		{Kind: 1, Nums: []int{0, 1, 255, 256, 1<<62 - 1}},
		{Kind: 2, Texts: []string{""}},
		{Kind: 2, Texts: []string{"", "a\x00", "\xff\xfe", "ä\n"}},
		{Kind: 2, Rows: [][]string{nil}},
		{Kind: 2, Rows: [][]string{nil, {}, {""}, {"", ""}, nil}},
		{Kind: 9, Nums: []int{}, Texts: []string{}, Rows: [][]string{}},
	}
	for seed := range 40 {
		l = append(l, noisyNote(int64(seed)))
	}
	return l
}

// edgeNotes stand at the limits.
func edgeNotes(t *testing.T) map[string]api.Note {
	return map[string]api.Note{
		"kind 1":                   {Kind: 1},
		"kind 255":                 {Kind: 255},
		"64 numbers":               {Kind: 1, Nums: of(64, 1)},
		"64 greatest numbers":      {Kind: 1, Nums: of(64, 1<<62-1)},
		"number 0":                 {Kind: 1, Nums: []int{0}},
		"4096 texts":               {Kind: 1, Texts: of(4096, "x")},
		"4096 empty texts":         {Kind: 1, Texts: of(4096, "")},
		"4096 texts of a row":      {Kind: 1, Rows: [][]string{of(4096, "x")}},
		"4096 texts of two rows":   {Kind: 1, Rows: [][]string{of(4000, "x"), of(96, "y")}},
		"4096 texts of all":        {Kind: 1, Texts: of(4000, ""), Rows: [][]string{of(90, "x"), nil, of(6, "")}},
		"4096 rows of a text each": {Kind: 1, Rows: of(4096, []string{"x"})},
		"4096 empty rows":          {Kind: 1, Rows: make([][]string, 4096)},
		"4096 rows and texts":      {Kind: 1, Texts: of(4096, "x"), Rows: make([][]string, 4096)},
		"a long text":              {Kind: 1, Texts: []string{strings.Repeat("x", 1<<16)}},
		"a long text of a row":     {Kind: 1, Rows: [][]string{{"a", strings.Repeat("x", 1<<16)}}},
		"15 long texts":            {Kind: 1, Texts: of(15, strings.Repeat("x", 1<<16))},
		"a full body":              bodySized(t, 1<<20),
		"a body but one byte full": bodySized(t, 1<<20-1),
	}
}

// wrongNotes are a step beyond a limit, and far beyond; those of one limit alone have nothing else that is wrong.
func wrongNotes(t *testing.T) map[string]api.Note {
	long := strings.Repeat("x", 1<<16+1)
	return map[string]api.Note{
		"no kind":                    {},
		"kind below 0":               {Kind: -1},
		"least kind":                 {Kind: math.MinInt},
		"kind 256":                   {Kind: 256},
		"kind 257":                   {Kind: 257},
		"greatest kind":              {Kind: math.MaxInt},
		"kind 0 beside others":       {Kind: 0, Nums: []int{1}, Texts: []string{"a"}, Rows: [][]string{{"b"}}},
		"65 numbers":                 {Kind: 1, Nums: of(65, 1)},
		"many numbers":               {Kind: 1, Nums: of(5000, 1)},
		"number 2^62":                {Kind: 1, Nums: []int{1 << 62}},
		"number 2^62 last":           {Kind: 1, Nums: []int{0, 1, 1 << 62}},
		"greatest number":            {Kind: 1, Nums: []int{math.MaxInt}},
		"number below 0":             {Kind: 1, Nums: []int{-1}},
		"number below 0 last":        {Kind: 1, Nums: []int{5, 5, -1}},
		"least number":               {Kind: 1, Nums: []int{math.MinInt}},
		"4097 texts":                 {Kind: 1, Texts: of(4097, "")},
		"4097 texts of a row":        {Kind: 1, Rows: [][]string{of(4097, "")}},
		"4097 texts of two rows":     {Kind: 1, Rows: [][]string{of(4096, ""), {""}}},
		"4097 texts, one of a row":   {Kind: 1, Texts: of(4096, ""), Rows: [][]string{nil, {""}}},
		"4097 texts, most of rows":   {Kind: 1, Texts: []string{"x"}, Rows: of(4096, []string{"x"})},
		"far too many texts of rows": {Kind: 1, Rows: of(4096, of(4096, "x"))},
		"4097 empty rows":            {Kind: 1, Rows: make([][]string, 4097)},
		"a text too long":            {Kind: 1, Texts: []string{long}},
		"a text too long, last":      {Kind: 1, Texts: []string{"a", "b", long}},
		"a text of a row too long":   {Kind: 1, Rows: [][]string{nil, {"a", long}, nil}},
		"a body one byte too long":   bodySized(t, 1<<20+1),
		"a body of texts alone":      {Kind: 1, Texts: of(16, strings.Repeat("x", 1<<16))},
		"a body far too long":        {Kind: 1, Texts: of(4096, strings.Repeat("x", 1<<16))},
		"a body of rows too long":    {Kind: 1, Rows: of(17, []string{strings.Repeat("x", 1<<16)})},
		// Texts that alone would not fill a body do so with what stands ahead of them.
		"a body too long by its lengths": {Kind: 1, Texts: of(4096, strings.Repeat("x", 254))},
	}
}

func packed(t *testing.T, n api.Note) string {
	t.Helper()
	s, e := wire.Pack(n)
	if e != api.OK {
		t.Fatalf("Pack of kind %d: %d", n.Kind, e)
	}
	return s
}

// refused tells that nothing is read of bytes, and why.
func refused(t *testing.T, name, s string, want api.Errno) {
	t.Helper()
	n, used, e := wire.Unpack(s)
	if e != want || used != 0 || !reflect.DeepEqual(n, api.Note{}) {
		t.Errorf("%s: Unpack(%.30q): note of kind %d, %d bytes, error %d; want error %d and zero values", name, s, n.Kind, used, e, want)
	}
	if l, used := wire.All(s); len(l) != 0 || used != 0 {
		t.Errorf("%s: All(%.30q): %d notes, %d bytes; want none", name, s, len(l), used)
	}
}

// unread tells that nothing is read of bytes, whyever.
func unread(t *testing.T, name, s string) {
	t.Helper()
	_, _, e := wire.Unpack(s)
	if e == api.OK {
		t.Errorf("%s: Unpack(%.30q) reads a note", name, s)
		return
	}
	refused(t, name, s, e)
}

func readBack(t *testing.T, name, s string, n api.Note, size int) {
	t.Helper()
	m, used, e := wire.Unpack(s)
	if e != api.OK || used != size || !same(m, n) {
		t.Errorf("%s: Unpack(%.30q): note of kind %d, %d bytes, error %d; want kind %d, %d bytes", name, s, m.Kind, used, e, n.Kind, size)
	}
}

// Wi1: the chapter's example, and the whole of two notes' bytes.
func TestExample(t *testing.T) {
	s := packed(t, api.Note{Kind: 1})
	if len(s) != 13 || s[:4] != "\x00\x00\x00\x05" || s[8:] != "\x01\x01\x00\x00\x00" {
		t.Errorf("kind 1 alone: %q", s)
	}
	sum := wantSum("\x01\x01\x00\x00\x00")
	if want := string([]byte{byte(sum >> 24), byte(sum >> 16), byte(sum >> 8), byte(sum)}); s[4:8] != want {
		t.Errorf("its sum: %q, want %q", s[4:8], want)
	}
	s = packed(t, api.Note{Kind: 3, Nums: []int{300}, Texts: []string{"hi"}, Rows: [][]string{{"a", "b"}, nil}})
	if want := "\x01\x03\x01\x01\x02\x01\x2c\x01\x01\x01\x02hi\x01\x02\x01\x02\x01\x01a\x01\x01b\x00"; s[8:] != want || s[:4] != "\x00\x00\x00\x18" {
		t.Errorf("kind 3: %q, want %q", s, want)
	}
}

// Wi1: notes that may be, at every limit, and their bytes as the chapter says them.
func TestMayBe(t *testing.T) {
	notes := edgeNotes(t)
	for i, n := range smallNotes() {
		notes["small "+wantNum(i)] = n
	}
	for name, n := range notes {
		if e := wire.Check(n); e != api.OK {
			t.Errorf("%s: Check: %d", name, e)
		}
		if s, e := wire.Pack(n); e != api.OK || s != sealed(wantBody(n)) {
			t.Errorf("%s: Pack: %d bytes (%.40q), %d", name, len(s), s, e)
		}
		if !mayBe(n) {
			t.Errorf("%s: may not be by the test's own words", name)
		}
	}
}

// Wi1: notes that may not be, and no bytes beside the error (R2).
func TestMayNotBe(t *testing.T) {
	for name, n := range wrongNotes(t) {
		if e := wire.Check(n); e != api.ErrArg {
			t.Errorf("%s: Check: %d, want ErrArg", name, e)
		}
		if s, e := wire.Pack(n); s != "" || e != api.ErrArg {
			t.Errorf("%s: Pack: %d bytes, %d, want none and ErrArg", name, len(s), e)
		}
	}
}

// Wi1: of 0 to 255 every kind but 0 may be, and no other.
func TestKinds(t *testing.T) {
	for kind := -300; kind <= 600; kind++ {
		want := api.OK
		if kind < 1 || kind > 255 {
			want = api.ErrArg
		}
		if e := wire.Check(api.Note{Kind: kind}); e != want {
			t.Errorf("kind %d: %d, want %d", kind, e, want)
		}
	}
}

// Wi1: fewer than 8 bytes, whatever they are.
func TestUnpackShort(t *testing.T) {
	whole := packed(t, api.Note{Kind: 1})
	for size := range 8 {
		refused(t, "short", whole[:size], api.ErrCut)
		refused(t, "short noughts", strings.Repeat("\x00", size), api.ErrCut)
		// Their length would be above MaxBody, but that is named behind.
		refused(t, "short and great", strings.Repeat("\xff", size), api.ErrCut)
	}
}

// Wi1: a length above MaxBody is named ahead of bytes that are missing and of another sum.
func TestUnpackGreat(t *testing.T) {
	for _, size := range []uint32{1<<20 + 1, 1<<20 + 2, 1 << 21, 1 << 24, 1<<24 + 5, 1<<31 - 1, 1 << 31, 1<<32 - 1} {
		head := string(binary.BigEndian.AppendUint32(nil, size))
		refused(t, "no body", head+"\x00\x00\x00\x00", api.ErrNote)
		refused(t, "some body", head+sealed(wantBody(api.Note{Kind: 1}))[4:], api.ErrNote)
	}
	body := wantBody(bodySized(t, 1<<20+1))
	refused(t, "whole", sealed(body), api.ErrNote)
	refused(t, "whole, more behind", sealed(body)+"more", api.ErrNote)
	refused(t, "one missing", sealed(body)[:8+1<<20], api.ErrNote)
	refused(t, "another sum", sealed(body)[:4]+"\x00\x00\x00\x00"+body, api.ErrNote)
}

// Wi1: fewer bytes than the length tells, named ahead of another sum and of a body that is none.
func TestUnpackCut(t *testing.T) {
	refused(t, "full length, no body", "\x00\x10\x00\x00\x00\x00\x00\x00", api.ErrCut)
	refused(t, "length 1, no body", "\x00\x00\x00\x01\x00\x00\x00\x00", api.ErrCut)
	full := packed(t, bodySized(t, 1<<20))
	refused(t, "full but one", full[:len(full)-1], api.ErrCut)
	for _, n := range smallNotes() {
		s := packed(t, n)
		refused(t, "one missing", s[:len(s)-1], api.ErrCut)
		refused(t, "one missing, another sum", s[:4]+"\x01\x02\x03\x04"+s[8:len(s)-1], api.ErrCut)
	}
	bad := sealed("\x00\x00\x00\x00\x00\x00")
	refused(t, "none's body, one missing", bad[:len(bad)-1], api.ErrCut)
}

// Wi1: another sum, named ahead of a body that is none.
func TestUnpackSum(t *testing.T) {
	for _, n := range smallNotes() {
		s := packed(t, n)
		for bit := range 32 {
			b := []byte(s)
			b[4+bit/8] ^= 1 << (bit % 8)
			refused(t, "another sum", string(b), api.ErrSum)
			refused(t, "another sum, more behind", string(b)+s, api.ErrSum)
		}
		refused(t, "sum turned about", s[:4]+string([]byte{s[7], s[6], s[5], s[4]})+s[8:], api.ErrSum)
	}
	refused(t, "no body, another sum", "\x00\x00\x00\x00\x00\x00\x00\x01", api.ErrSum)
	bad := []byte(sealed("\x00\x00\x00\x00\x00\x00"))
	bad[7] ^= 1
	refused(t, "none's body, another sum", string(bad), api.ErrSum)
}

// badBodies are of no note that may be, though lengths and sums are theirs.
func badBodies(t *testing.T) map[string]string {
	m := map[string]string{
		"none":                    "",
		"kind alone":              "\x01\x01",
		"no rows":                 "\x01\x01\x00\x00",
		"one byte behind":         "\x01\x01\x00\x00\x00\x00",
		"a note behind":           "\x01\x01\x00\x00\x00" + "\x01\x01\x00\x00\x00",
		"kind with nought ahead":  "\x02\x00\x01\x00\x00\x00",
		"kind of 9 bytes":         "\x09\x01\x01\x01\x01\x01\x01\x01\x01\x01\x00\x00\x00",
		"kind of 2^63":            "\x08\x80\x00\x00\x00\x00\x00\x00\x00\x00\x00\x00",
		"count of 2^63":           "\x01\x01\x08\x80\x00\x00\x00\x00\x00\x00\x00\x00\x00",
		"greatest count":          "\x01\x01\x08\x7f\xff\xff\xff\xff\xff\xff\xff\x00\x00",
		"greatest count of texts": "\x01\x01\x00\x08\x7f\xff\xff\xff\xff\xff\xff\xff\x00",
		"greatest count of rows":  "\x01\x01\x00\x00\x08\x7f\xff\xff\xff\xff\xff\xff\xff",
		"greatest length":         "\x01\x01\x00\x01\x01\x08\x7f\xff\xff\xff\xff\xff\xff\xff\x00",
		"number with nought":      "\x01\x01\x01\x01\x01\x01\x00\x00\x00",
		"fewer numbers":           "\x01\x01\x01\x03\x00\x00",
		"fewer texts":             "\x01\x01\x00\x01\x02\x01\x01a",
		"fewer rows":              "\x01\x01\x00\x00\x01\x02\x00",
		"fewer texts of a row":    "\x01\x01\x00\x00\x01\x01\x01\x02\x00",
		"64 numbers, but cut":     "\x01\x01\x01\x40" + strings.Repeat("\x00", 63),
		"rows that end in one":    "\x01\x01\x00\x00\x02\x10\x00" + strings.Repeat("\x02\x0f\xff"+strings.Repeat("\x00", 4095), 2),
	}
	for name, n := range wrongNotes(t) {
		// What has no bytes at all, and bodies that a note's length would refuse, stand elsewhere.
		if n.Kind >= 0 && (len(n.Nums) == 0 || slices.Min(n.Nums) >= 0) && len(n.Texts) < 4096+2 && name != "far too many texts of rows" && name != "a body far too long" {
			if b := wantBody(n); len(b) <= 1<<20 {
				m[name] = b
			}
		}
	}
	for i, n := range smallNotes() {
		b := wantBody(n)
		m["more behind "+wantNum(i)] = b + "\x00"
		m["itself behind "+wantNum(i)] = b + b
		for k := range len(b) {
			if _, ok := ofNote(b[:k]); ok {
				t.Errorf("the beginning %q of a body is one", b[:k])
			}
			m["cut "+wantNum(i)+wantNum(k)] = b[:k]
		}
	}
	return m
}

// Wi1: a body that is none of a note that may be.
func TestUnpackNote(t *testing.T) {
	bodies := badBodies(t)
	for _, must := range []string{"no kind", "kind 256", "65 numbers", "number 2^62", "4097 texts", "4097 texts of two rows", "4097 texts, one of a row", "4097 empty rows", "a text too long", "a text of a row too long"} {
		if _, there := bodies[must]; !there {
			t.Errorf("no body for %q", must)
		}
	}
	for name, b := range bodies {
		refused(t, name, sealed(b), api.ErrNote)
		refused(t, name+", more behind", sealed(b)+"\x00\x00", api.ErrNote)
	}
}

// Wi1: of all short bodies of a few bytes just those of notes are read, and as those notes.
func TestUnpackEveryShortBody(t *testing.T) {
	letters := []byte{0, 1, 2, 9}
	read := 0
	var each func(body []byte)
	each = func(body []byte) {
		s := sealed(string(body))
		if n, ok := ofNote(string(body)); ok {
			read++
			readBack(t, "short body", s, n, len(s))
		} else {
			refused(t, "short body", s, api.ErrNote)
		}
		if len(body) < 9 {
			for _, b := range letters {
				each(append(slices.Clip(body), b))
			}
		}
	}
	each(nil)
	if read < 20 {
		t.Errorf("only %d bodies were of notes", read)
	}
}

// Wi1, Wi2: what is packed is read back, whatever bytes stand behind it.
func TestReadBack(t *testing.T) {
	notes := edgeNotes(t)
	for i, n := range smallNotes() {
		notes["small "+wantNum(i)] = n
	}
	for name, n := range notes {
		s := packed(t, n)
		for _, behind := range []string{"", "z", "\x00", "\xff\xff\xff\xff\xff\xff\xff\xff\xff", s[:8], strings.Repeat("\x00", 40)} {
			readBack(t, name, s+behind, n, len(s))
		}
		readBack(t, name+" twice", s+s, n, len(s))
	}
}

// Wi1: the notes that stand one behind the other, and no more.
func TestAll(t *testing.T) {
	if l, used := wire.All(""); len(l) != 0 || used != 0 {
		t.Errorf("All of nothing: %d notes, %d bytes", len(l), used)
	}
	notes := smallNotes()
	s, none := "", sealed("\x01\x00\x00\x00\x00")
	for k, n := range notes {
		s += packed(t, n)
		torn := packed(t, n)
		for _, behind := range []string{"", "z", "\xff\xff\xff\xff\xff\xff\xff\xff", torn[:len(torn)-1], "\x00" + torn, none, none + torn, sealed(""), strings.Repeat("\x00", 9)} {
			if l, used := wire.All(s + behind); !sameAll(l, notes[:k+1]) || used != len(s) {
				t.Errorf("All of %d notes with %.20q behind: %d notes, %d bytes, want %d", k+1, behind, len(l), used, len(s))
			}
		}
	}
	if l, used := wire.All("z" + s); len(l) != 0 || used != 0 {
		t.Errorf("All of notes with a byte ahead: %d notes, %d bytes", len(l), used)
	}
}

// Wi1: many notes, and a full one among them.
func TestAllMany(t *testing.T) {
	one := packed(t, api.Note{Kind: 4, Texts: []string{"x"}})
	full := packed(t, bodySized(t, 1<<20))
	s := strings.Repeat(one, 5000) + full + one
	l, used := wire.All(s)
	if len(l) != 5002 || used != len(s) || l[4999].Kind != 4 || l[5000].Kind != 7 || l[5001].Texts[0] != "x" {
		t.Errorf("All of 5002 notes: %d notes, %d of %d bytes", len(l), used, len(s))
	}
}

// Wi2: notes one behind the other, cut at each place, are read as those that are whole.
func TestCutAtEachPlace(t *testing.T) {
	notes := smallNotes()
	s, ends := "", []int{}
	for _, n := range notes {
		s += packed(t, n)
		ends = append(ends, len(s))
	}
	for size := range len(s) + 1 {
		whole, upTo := 0, 0
		for whole < len(ends) && ends[whole] <= size {
			upTo = ends[whole]
			whole++
		}
		if l, used := wire.All(s[:size]); !sameAll(l, notes[:whole]) || used != upTo {
			t.Errorf("All of %d bytes: %d notes, %d bytes; want %d, %d", size, len(l), used, whole, upTo)
		}
	}
}

// Wi2: nothing is read of a note of which bytes are missing, wherever behind its length.
func TestMissing(t *testing.T) {
	for _, n := range smallNotes() {
		s := packed(t, n)
		for from := 0; from < len(s); from++ {
			refused(t, "cut", s[:from], api.ErrCut)
			for upTo := from + 1; from >= 4 && upTo <= len(s); upTo++ {
				refused(t, "a gap", s[:from]+s[upTo:], api.ErrCut)
			}
		}
	}
}

// changed is bytes of which some in a row are others.
func changed(s string, at int, xor []byte) string {
	b := []byte(s)
	for i, x := range xor {
		b[at+i] ^= x
	}
	return string(b)
}

// Wi2: a note of whose body one byte is another is not read, at whatever place and whatever the byte.
func TestOneByteChanged(t *testing.T) {
	for _, n := range smallNotes() {
		s := packed(t, n)
		for at := 8; at < len(s); at++ {
			for x := 1; x < 256; x++ {
				refused(t, "one byte", changed(s, at, []byte{byte(x)}), api.ErrSum)
			}
		}
	}
}

// Wi2: nor if up to four in a row are others, at the body's beginning, in the midst and at its end; also with more notes behind.
func TestUpToFourChanged(t *testing.T) {
	r := rand.New(rand.NewSource(1))
	notes := append(smallNotes(), bodySized(t, 1<<20))
	for _, n := range notes {
		s := packed(t, n)
		for _, at := range placesOf(len(s)) {
			for size := 2; size <= 4 && at+size <= len(s); size++ {
				for range 1 + 100/len(s) {
					xor := []byte(noise(r, size))
					xor[0] |= 1
					bad := changed(s, at, xor)
					refused(t, "some bytes", bad, api.ErrSum)
					refused(t, "some bytes, more behind", bad+packed(t, api.Note{Kind: 1}), api.ErrSum)
				}
			}
		}
	}
}

// placesOf are all places of a short note's body, and of a long one's some at its beginning, in the midst and at its end.
func placesOf(size int) []int {
	var l []int
	for at := 8; at < size; at++ {
		if size < 1000 || at < 12 || at > size-5 || at/4 == size/8 {
			l = append(l, at)
		}
	}
	return l
}

// Wi2: all notes of one shape that differ in four bytes in a row of numbers: none has the head of another.
func TestFourBytesOfAText(t *testing.T) {
	heads := map[string]bool{}
	for i := range 1 << 16 {
		text := string(binary.BigEndian.AppendUint32(nil, uint32(i)*0x9e3779b1))
		heads[packed(t, api.Note{Kind: 1, Texts: []string{text}})[:8]] = true
	}
	if len(heads) != 1<<16 {
		t.Errorf("%d heads of %d notes", len(heads), 1<<16)
	}
}

// Wi2: bytes of a body that are those of another note do not pass under the first one's head.
func TestAnothersBody(t *testing.T) {
	a := packed(t, api.Note{Kind: 1, Nums: []int{1}, Texts: []string{"ann"}})
	b := packed(t, api.Note{Kind: 1, Nums: []int{2}, Texts: []string{"ann"}})
	unread(t, "another's body", a[:8]+b[8:])
	unread(t, "another's sum", a[:4]+b[4:8]+a[8:])
}

// R3: what is handed in is not changed, nor what lies behind a list's end, nor read.
func TestHandedInStays(t *testing.T) {
	nums, texts := []int{1, 2, -1}, []string{"a", "b", strings.Repeat("x", 1<<17)}
	rows := [][]string{texts[:1], texts[1:2], texts}
	n := api.Note{Kind: 1, Nums: nums[:2], Texts: texts[:2], Rows: rows[:2]}
	if e := wire.Check(n); e != api.OK {
		t.Errorf("Check looks behind a list's end: %d", e)
	}
	s := packed(t, n)
	readBack(t, "with room behind", s, api.Note{Kind: 1, Nums: []int{1, 2}, Texts: []string{"a", "b"}, Rows: [][]string{{"a"}, {"b"}}}, len(s))
	if !slices.Equal(nums, []int{1, 2, -1}) || texts[0] != "a" || texts[1] != "b" || len(texts[2]) != 1<<17 || len(rows[2]) != 3 {
		t.Error("what was handed in has changed")
	}
}

// R3: the lists of an answer share no memory, nor do those of two answers.
func TestNewMemory(t *testing.T) {
	n := api.Note{Kind: 1, Nums: []int{1, 2}, Texts: []string{"a", "b"}, Rows: [][]string{{"c", "d"}, {"e"}, {}}}
	s := packed(t, n)
	l, _ := wire.All(s + s)
	m, _, _ := wire.Unpack(s)
	spoil := func(v *api.Note) {
		v.Nums = append(v.Nums, 9)
		v.Nums[0] = 9
		v.Texts = append(v.Texts, "z")
		v.Texts[0] = "z"
		v.Rows[0] = append(v.Rows[0], "z")
		v.Rows[0][0] = "z"
	}
	spoil(&l[0])
	if !same(l[1], n) || !same(m, n) {
		t.Error("two notes share memory")
	}
	if l[0].Rows[1][0] != "e" || len(l[0].Rows[1]) != 1 || len(l[0].Rows[2]) != 0 || l[0].Texts[1] != "b" {
		t.Error("two lists of a note share memory")
	}
}

// R4: the same is answered again.
func TestSameAgain(t *testing.T) {
	for _, n := range smallNotes() {
		if packed(t, n) != packed(t, n) {
			t.Errorf("kind %d is packed otherwise the second time", n.Kind)
		}
	}
}

// FuzzBody: of any body just those of notes are read, and are packed to the same bytes again.
func FuzzBody(f *testing.F) {
	for _, n := range smallNotes() {
		f.Add(wantBody(n), "z")
	}
	f.Add("", "")
	f.Fuzz(func(t *testing.T, body, behind string) {
		s := sealed(body)
		n, ok := ofNote(body)
		if !ok {
			refused(t, "fuzz", s+behind, api.ErrNote)
			return
		}
		readBack(t, "fuzz", s+behind, n, len(s))
		if packed(t, n) != s {
			t.Errorf("%q is packed to other bytes", body)
		}
	})
}
