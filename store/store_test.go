package store_test

import (
	"math"
	"math/rand"
	"regexp"
	"slices"
	"strconv"
	"strings"
	"testing"

	"sinew/api"
	"sinew/check"
	"sinew/store"
)

// word is what a word is, in the document's own words.
var word = regexp.MustCompile(`^[a-z0-9:-]{1,16}$`)

// ahead tells whether a fact stands ahead of another one. Go holds strings against each other by their bytes.
func ahead(a, b api.Triple) bool {
	if a.S != b.S {
		return a.S < b.S
	}
	if a.P != b.P {
		return a.P < b.P
	}
	return a.O < b.O
}

// book is a store in the chapter's own words: a list of facts for each version, whole and sorted.
type book struct {
	versions [][]api.Triple
}

func (b *book) last() int { return len(b.versions) - 1 }

// behind are the facts behind a batch, its changes done one behind the other.
func (b *book) behind(l []api.Change) []api.Triple {
	facts := slices.Clone(b.versions[b.last()])
	for _, c := range l {
		at := 0
		for at < len(facts) && ahead(facts[at], c.T) {
			at++
		}
		there := at < len(facts) && facts[at] == c.T
		if c.Gone && there {
			facts = slices.Delete(facts, at, at+1)
		}
		if !c.Gone && !there {
			facts = slices.Insert(facts, at, c.T)
		}
	}
	return facts
}

// refuses is the first error of a batch, by the chapter's order.
func (b *book) refuses(version int, l []api.Change) api.Errno {
	if len(l) > 64 {
		return api.ErrArg
	}
	for _, c := range l {
		if !word.MatchString(c.T.S) || !word.MatchString(c.T.P) || !word.MatchString(c.T.O) {
			return api.ErrArg
		}
	}
	if version < 1 || version-1 != b.last() {
		return api.ErrNext
	}
	if len(b.behind(l)) > 4096 {
		return api.ErrFull
	}
	return api.OK
}

func (b *book) match(version int, like api.Triple) []api.Triple {
	var l []api.Triple
	for _, t := range b.versions[version] {
		if (like.S == "" || like.S == t.S) && (like.P == "" || like.P == t.P) && (like.O == "" || like.O == t.O) {
			l = append(l, t)
		}
	}
	return l
}

func (b *book) homes(worker, workers int) bool {
	for _, facts := range b.versions {
		for _, t := range facts {
			if home, e := check.Home(t.S, workers); e != api.OK || home != worker {
				return false
			}
		}
	}
	return true
}

// pair is a store, and the book that it must be like.
type pair struct {
	t     *testing.T
	store *store.Store
	book  *book
}

func made(t *testing.T) *pair {
	t.Helper()
	s := store.New()
	if s == nil {
		t.Fatal("New: nil")
	}
	return &pair{t, s, &book{make([][]api.Triple, 1)}}
}

// apply does a batch to both, and tells whether Room and Apply answer as they must.
func (p *pair) apply(version int, l []api.Change) api.Errno {
	p.t.Helper()
	fits := p.book.refuses(p.book.last()+1, l) == api.OK
	for range 2 {
		if p.store.Room(l) != fits {
			p.t.Fatalf("Room behind version %d: %v", p.book.last(), !fits)
		}
	}
	want := p.book.refuses(version, l)
	if e := p.store.Apply(version, l); e != want {
		p.t.Fatalf("Apply(%d) behind version %d: %d, want %d", version, p.book.last(), e, want)
	}
	if want == api.OK {
		p.book.versions = append(p.book.versions, p.book.behind(l))
	}
	return want
}

// next does a batch that must be done.
func (p *pair) next(l ...api.Change) {
	p.t.Helper()
	if e := p.apply(p.book.last()+1, l); e != api.OK {
		p.t.Fatalf("the batch of version %d: %d", p.book.last()+1, e)
	}
}

// wrongVersions are versions that there are not.
func (p *pair) wrongVersions() []int {
	last := p.book.last()
	return []int{math.MinInt, math.MinInt32, -last - 1, -1, last + 1, last + 2, math.MaxInt32, 1 << 32, 1<<32 + last, math.MaxInt - 1, math.MaxInt}
}

// holds tells whether a store has all versions as the book has them.
func (p *pair) holds() {
	p.t.Helper()
	if v := p.store.Version(); v != p.book.last() {
		p.t.Fatalf("Version: %d, want %d", v, p.book.last())
	}
	for v, want := range p.book.versions {
		if l, e := p.store.Facts(v); !slices.Equal(l, want) || e != api.OK {
			p.t.Fatalf("Facts(%d) of %d: %v, %d, want %v", v, p.book.last(), l, e, want)
		}
	}
	for _, v := range p.wrongVersions() {
		if l, e := p.store.Facts(v); len(l) != 0 || e != api.ErrPast {
			p.t.Fatalf("Facts(%d) of %d: %v, %d, want ErrPast", v, p.book.last(), l, e)
		}
		if l, e := p.store.Match(v, api.Triple{}); len(l) != 0 || e != api.ErrPast {
			p.t.Fatalf("Match(%d) of %d: %v, %d, want ErrPast", v, p.book.last(), l, e)
		}
	}
}

// matches tells whether Match answers as the book, for each version.
func (p *pair) matches(like api.Triple) {
	p.t.Helper()
	for v := range p.book.versions {
		want := p.book.match(v, like)
		if l, e := p.store.Match(v, like); !slices.Equal(l, want) || e != api.OK {
			p.t.Fatalf("Match(%d, %v): %v, %d, want %v", v, like, l, e, want)
		}
	}
	for _, v := range p.wrongVersions() {
		if l, e := p.store.Match(v, like); len(l) != 0 || e != api.ErrPast {
			p.t.Fatalf("Match(%d, %v): %v, %d, want ErrPast", v, like, l, e)
		}
	}
}

// triple is of three words with blanks between.
func triple(s string) api.Triple {
	w := strings.Split(s, " ")
	return api.Triple{S: w[0], P: w[1], O: w[2]}
}

func come(s string) api.Change { return api.Change{T: triple(s)} }
func gone(s string) api.Change { return api.Change{Gone: true, T: triple(s)} }

// numbered are facts from one number on as far as another, no two alike, all three places of them many words.
func numbered(from, end int) []api.Change {
	var l []api.Change
	for i := from; i < end; i++ {
		n := strconv.Itoa(i)
		l = append(l, api.Change{T: api.Triple{S: "s" + n, P: "p" + strconv.Itoa(i%7), O: "o" + strconv.Itoa(i%100)}})
	}
	return l
}

// going are the same triples, as ones that go.
func going(l []api.Change) []api.Change {
	l = slices.Clone(l)
	for i := range l {
		l[i].Gone = true
	}
	return l
}

// filled has so many numbered facts.
func filled(t *testing.T, count int) *pair {
	t.Helper()
	p := made(t)
	for from := 0; from < count; from += 64 {
		p.next(numbered(from, min(from+64, count))...)
	}
	return p
}

// noWords are texts that are none.
func noWords() []string {
	return []string{
		"", strings.Repeat("a", 17), strings.Repeat("a", 1<<16+1), "B", "aB", "a b", " ", " a", "a ", "a\n", "\n", "\x00", "a\x00",
		"b\xffb", "\xff", "j\u00fcrg", "\uff41", "a_b", "?x", "a.b", "a/b", "a;b", "a,b", "`", "{",
	}
}

// places are the triple a p b with a text at each of its places, in turn.
func places(s string) []api.Triple {
	return []api.Triple{{S: s, P: "p", O: "b"}, {S: "a", P: s, O: "b"}, {S: "a", P: "p", O: s}}
}

// The chapter's example.
func TestExample(t *testing.T) {
	s := store.New()
	if e := s.Apply(1, []api.Change{come("a p b")}); e != api.OK {
		t.Fatal(e)
	}
	if e := s.Apply(2, []api.Change{gone("a p b")}); e != api.OK {
		t.Fatal(e)
	}
	if l, e := s.Facts(1); !slices.Equal(l, []api.Triple{{S: "a", P: "p", O: "b"}}) || e != api.OK {
		t.Error(l, e)
	}
	if l, e := s.Facts(2); len(l) != 0 || e != api.OK {
		t.Error(l, e)
	}
}

// St1: a new store has the version 0, without facts.
func TestNew(t *testing.T) {
	p := made(t)
	p.holds()
	p.matches(api.Triple{})
	p.matches(triple("a p b"))
	if v := p.store.Version(); v != 0 {
		t.Errorf("Version: %d", v)
	}
	if l, e := p.store.Facts(0); len(l) != 0 || e != api.OK {
		t.Errorf("Facts(0): %v, %d", l, e)
	}
	if !p.store.Room(nil) || !p.store.Room([]api.Change{come("a p b")}) {
		t.Error("Room: false")
	}
}

// St1: batches of each number of changes about the limit 64, that come, that are one triple again and again, or that go.
func TestApplyCount(t *testing.T) {
	for count, want := range map[int]api.Errno{
		0: api.OK, 1: api.OK, 2: api.OK, 63: api.OK, 64: api.OK,
		65: api.ErrArg, 66: api.ErrArg, 128: api.ErrArg, 256: api.ErrArg, 320: api.ErrArg, 4097: api.ErrArg, 1<<16 + 1: api.ErrArg,
	} {
		for _, l := range [][]api.Change{
			numbered(0, count),
			slices.Repeat([]api.Change{come("a p b")}, count),
			slices.Repeat([]api.Change{gone("s1 p1 o1")}, count),
			slices.Repeat([]api.Change{gone("a p b")}, count),
		} {
			for _, had := range []int{0, 3} {
				p := filled(t, had)
				if e := p.apply(p.book.last()+1, l); e != want {
					t.Errorf("%d changes: %d, want %d", count, e, want)
				}
				p.holds()
				p.next(come("z z z"))
				p.holds()
			}
		}
	}
	p := made(t)
	if !p.store.Room(numbered(0, 64)) || p.store.Room(numbered(0, 65)) {
		t.Error("Room about 64 changes")
	}
}

// St1: a batch without changes, nil or empty, makes a version with the same facts.
func TestApplyNothing(t *testing.T) {
	p := made(t)
	for _, l := range [][]api.Change{nil, {}, {come("a p b")}, nil, {}} {
		p.next(l...)
		p.holds()
	}
	if l, e := p.store.Facts(5); p.store.Version() != 5 || !slices.Equal(l, []api.Triple{triple("a p b")}) || e != api.OK {
		t.Errorf("%d: %v, %d", p.store.Version(), l, e)
	}
}

// St1: a text that is no word, at each place of a triple that comes or goes, first or last of a batch or alone, whatever the version.
func TestNoWords(t *testing.T) {
	for _, s := range noWords() {
		for _, wrong := range places(s) {
			for _, isGone := range []bool{false, true} {
				c := api.Change{Gone: isGone, T: wrong}
				p := made(t)
				p.next(come("a p b"))
				for _, l := range [][]api.Change{{c}, {c, come("c p d")}, {come("c p d"), gone("a p b"), c}, {c, c}} {
					for _, version := range []int{2, 1, 3, 0, -1, math.MinInt, math.MaxInt} {
						if e := p.apply(version, l); e != api.ErrArg {
							t.Errorf("Apply(%d) of %q: %d", version, wrong, e)
						}
						if p.store.Room(l) {
							t.Errorf("Room of %q: true", wrong)
						}
					}
				}
				p.holds()
			}
		}
	}
}

// St1: words of all lengths and bytes, at each place.
func TestWords(t *testing.T) {
	for _, s := range []string{"a", "z", "0", "9", "-", ":", "a-:0", "0123456789abcdef", strings.Repeat("z", 16), "----------------", "a", "p", "b"} {
		for _, right := range places(s) {
			p := made(t)
			p.next(api.Change{T: right})
			p.holds()
			p.next(api.Change{Gone: true, T: right})
			p.holds()
		}
	}
}

// St1: of all versions but the next one.
func TestNext(t *testing.T) {
	p := made(t)
	for v := range 6 {
		for _, wrong := range []int{math.MinInt, math.MinInt + 1, -1 << 32, -v - 1, -1, 0, v - 1, v, v + 2, v + 3, 1<<32 + v + 1, math.MaxInt - 1, math.MaxInt} {
			for _, l := range [][]api.Change{nil, {come("a p b")}, numbered(10, 74)} {
				if e := p.apply(wrong, l); e != api.ErrNext {
					t.Errorf("Apply(%d) behind %d: %d", wrong, v, e)
				}
			}
		}
		p.holds()
		if e := p.apply(v+1, numbered(v, v+1)); e != api.OK {
			t.Errorf("Apply(%d): %d", v+1, e)
		}
		p.holds()
	}
}

// R2: where several errors apply, the chapter's first one: ErrArg, ErrNext, ErrFull.
func TestErrorOrder(t *testing.T) {
	p := filled(t, 4096)
	last := p.book.last()
	tooMany := []api.Change{come("a p b")}
	tooLong := numbered(5000, 5065)
	noWord := []api.Change{come("a p b"), {T: api.Triple{S: "a", P: "p"}}}
	for _, c := range []struct {
		version int
		l       []api.Change
		want    api.Errno
	}{
		{last + 1, tooLong, api.ErrArg}, {last + 2, tooLong, api.ErrArg}, {last, tooLong, api.ErrArg}, {0, tooLong, api.ErrArg},
		{last + 1, noWord, api.ErrArg}, {last + 2, noWord, api.ErrArg}, {last, noWord, api.ErrArg}, {-1, noWord, api.ErrArg},
		{last + 2, tooMany, api.ErrNext}, {last, tooMany, api.ErrNext}, {0, tooMany, api.ErrNext}, {math.MaxInt, tooMany, api.ErrNext},
		{last + 1, tooMany, api.ErrFull},
	} {
		if e := p.apply(c.version, c.l); e != c.want {
			t.Errorf("Apply(%d): %d, want %d", c.version, e, c.want)
		}
	}
	p.holds()
}

// St1: each way in which one triple comes and goes, up to five times, within one batch, over batches, and cut in two batches; others stand beside it.
func TestComesAndGoes(t *testing.T) {
	for length := range 6 {
		for way := range 1 << length {
			var l []api.Change
			for i := range length {
				l = append(l, api.Change{Gone: way>>i&1 == 1, T: triple("m p m")})
			}
			for cut := range length + 1 {
				for _, first := range [][]api.Change{nil, {come("m p m")}, {come("a p a"), come("m p z"), come("m p m"), come("m a m")}} {
					p := made(t)
					p.next(first...)
					p.next(l[:cut]...)
					p.next(l[cut:]...)
					p.holds()
				}
			}
			p := made(t)
			for _, c := range l {
				p.next(c)
			}
			p.holds()
		}
	}
}

// St1: the same, spelt out.
func TestChangesSpelt(t *testing.T) {
	x, y := triple("x p x"), triple("y p y")
	for name, c := range map[string]struct {
		l    []api.Change
		want []api.Triple
	}{
		"comes again":             {[]api.Change{come("x p x"), come("x p x")}, []api.Triple{x}},
		"comes twice":             {[]api.Change{come("y p y"), come("y p y")}, []api.Triple{x, y}},
		"comes and goes":          {[]api.Change{come("y p y"), gone("y p y")}, []api.Triple{x}},
		"goes and comes":          {[]api.Change{gone("x p x"), come("x p x")}, []api.Triple{x}},
		"goes":                    {[]api.Change{gone("x p x")}, nil},
		"goes twice":              {[]api.Change{gone("x p x"), gone("x p x")}, nil},
		"goes and is not there":   {[]api.Change{gone("y p y")}, []api.Triple{x}},
		"goes ahead of coming":    {[]api.Change{gone("y p y"), come("y p y")}, []api.Triple{x, y}},
		"comes again and goes":    {[]api.Change{come("x p x"), gone("x p x")}, nil},
		"goes, comes, goes":       {[]api.Change{gone("x p x"), come("x p x"), gone("x p x")}, nil},
		"comes, goes, comes":      {[]api.Change{come("y p y"), gone("y p y"), come("y p y")}, []api.Triple{x, y}},
		"one goes, one comes":     {[]api.Change{gone("x p x"), come("y p y")}, []api.Triple{y}},
		"others than it go":       {[]api.Change{gone("x p y"), gone("y p x"), gone("x x p"), gone("p x x"), gone("xp x x")}, []api.Triple{x}},
		"one's words otherwise":   {[]api.Change{gone("x p x"), come("p x x")}, []api.Triple{triple("p x x")}},
		"words that run together": {[]api.Change{come("xp x x"), come("x px x"), gone("x px x")}, []api.Triple{x, triple("xp x x")}},
	} {
		s := store.New()
		if e := s.Apply(1, []api.Change{come("x p x")}); e != api.OK {
			t.Fatal(e)
		}
		if e := s.Apply(2, c.l); e != api.OK {
			t.Errorf("%s: %d", name, e)
		}
		if l, e := s.Facts(2); !slices.Equal(l, c.want) || e != api.OK {
			t.Errorf("%s: %v, %d, want %v", name, l, e, c.want)
		}
		if l, e := s.Facts(1); !slices.Equal(l, []api.Triple{x}) || e != api.OK {
			t.Errorf("%s: Facts(1): %v, %d", name, l, e)
		}
	}
}

// St1: 4096 facts may be, and not one more, by whatever number of changes one would be too many.
func TestFull(t *testing.T) {
	for _, had := range []int{4032, 4033, 4063, 4095, 4096} {
		p := filled(t, had)
		for _, count := range []int{1, 2, 32, 33, 63, 64} {
			want := api.OK
			if had+count > 4096 {
				want = api.ErrFull
			}
			l := numbered(had, had+count)
			if fits := p.store.Room(l); fits != (want == api.OK) {
				t.Errorf("Room of %d beside %d facts: %v", count, had, fits)
			}
			if want == api.ErrFull {
				if e := p.apply(p.book.last()+1, l); e != want {
					t.Errorf("%d beside %d facts: %d, want ErrFull", count, had, e)
				}
			}
		}
		p.next(numbered(had, 4096)...)
		if l, e := p.store.Facts(p.store.Version()); len(l) != 4096 || e != api.OK {
			t.Errorf("%d facts, %d", len(l), e)
		}
		if e := p.apply(p.book.last()+1, numbered(4096, 4097)); e != api.ErrFull {
			t.Errorf("one fact more: %d", e)
		}
	}
}

// St1: of a full store, batches behind which there are no more facts are done, even if there are more on the way; others are not.
func TestFullOnTheWay(t *testing.T) {
	more, some := numbered(4096, 4128), numbered(1000, 1032)
	done := map[string][]api.Change{
		"nothing":                    nil,
		"facts that are there":       numbered(4032, 4096),
		"some go, some come":         slices.Concat(going(some), more),
		"some come, some go":         slices.Concat(more, going(some)),
		"some come and go":           slices.Concat(more, going(more)),
		"one comes, another goes":    {come("a p b"), gone("s77 p0 o77")},
		"one comes twice, one goes":  {come("a p b"), come("a p b"), gone("s77 p0 o77")},
		"one goes and comes":         {gone("s77 p0 o77"), come("s77 p0 o77")},
		"one goes":                   {gone("s77 p0 o77")},
		"one goes that is not there": {gone("a p b")},
	}
	refused := map[string][]api.Change{
		"one comes":                           {come("a p b")},
		"one comes twice":                     {come("a p b"), come("a p b")},
		"64 come":                             numbered(4096, 4160),
		"two come, one goes":                  {come("a p b"), gone("s77 p0 o77"), come("a p c")},
		"one comes, one goes twice, one more": {come("a p b"), gone("s77 p0 o77"), gone("s77 p0 o77"), come("a p c")},
		"one comes, one goes and comes":       {come("a p b"), gone("s77 p0 o77"), come("s77 p0 o77")},
		"one comes, none goes":                {come("a p b"), gone("a p c")},
		"one goes ahead of coming":            {gone("a p b"), come("a p b")},
	}
	p := filled(t, 4096)
	for name, l := range refused {
		if p.store.Room(l) {
			t.Errorf("%s: Room: true", name)
		}
		if e := p.apply(p.book.last()+1, l); e != api.ErrFull {
			t.Errorf("%s: %d", name, e)
		}
	}
	p.holds()
	for name, l := range done {
		p := filled(t, 4096)
		if !p.store.Room(l) {
			t.Errorf("%s: Room: false", name)
		}
		if e := p.apply(p.book.last()+1, l); e != api.OK {
			t.Errorf("%s: %d", name, e)
		}
		last := p.book.last()
		for _, v := range []int{last - 1, last} {
			if l, e := p.store.Facts(v); !slices.Equal(l, p.book.versions[v]) || e != api.OK {
				t.Errorf("%s: Facts(%d): %d facts, %d", name, v, len(l), e)
			}
		}
	}
}

// St1: a full store of which facts go has room again, however many came and went ahead of that.
func TestFullAndAgain(t *testing.T) {
	p := filled(t, 4096)
	for i := range 200 {
		out := numbered(i*20, i*20+20)
		p.next(going(out)...)
		if !p.store.Room(out) || p.store.Room(numbered(20000, 20021)) {
			t.Fatalf("Room behind %d rounds", i)
		}
		p.next(numbered(5000+i*20, 5000+i*20+20)...)
		if p.store.Room([]api.Change{come("a p b")}) {
			t.Fatalf("Room of a full store, behind %d rounds", i)
		}
	}
	p.holds()
}

// St1: Room changes nothing, whatever it is asked about.
func TestRoomChangesNothing(t *testing.T) {
	p := filled(t, 130)
	for _, l := range [][]api.Change{
		nil, {come("a p b")}, numbered(200, 264), numbered(200, 265), going(numbered(0, 64)), {come("a p b"), {}},
	} {
		for range 3 {
			p.store.Room(l)
			p.holds()
		}
	}
}

// sortedFacts rise: by the first place that differs, by bytes, a beginning ahead of what goes on.
func sortedFacts() []api.Triple {
	var l []api.Triple
	for _, s := range []string{
		"- p a", "0 z z", "00 a a", "9 a a", ": a a", "a - -", "a - 0", "a 0 -", "a : -", "a : :", "a a a", "a a aa", "a a b", "a aa a", "a b -", "a b a",
		"a- a a", "a0 a a", "a: a a", "aa a a", "aaaaaaaaaaaaaaa z z", "aaaaaaaaaaaaaaaa a a", "ab a a", "b - -", "z a a", "z a z", "z z a", "zz a a",
	} {
		l = append(l, triple(s))
	}
	return l
}

// St1: facts are sorted by subject, then predicate, then object, by bytes, in whatever order they came.
func TestSorted(t *testing.T) {
	r := rand.New(rand.NewSource(7))
	want := sortedFacts()
	for range 100 {
		p := made(t)
		for _, i := range r.Perm(len(want)) {
			p.next(api.Change{T: want[i]})
		}
		if l, e := p.store.Facts(len(want)); !slices.Equal(l, want) || e != api.OK {
			t.Fatalf("Facts: %v, %d", l, e)
		}
		if l, e := p.store.Match(len(want), api.Triple{}); !slices.Equal(l, want) || e != api.OK {
			t.Fatalf("Match: %v, %d", l, e)
		}
		p.holds()
	}
}

// cube has all facts of a few words at each place, over three versions.
func cube(t *testing.T) *pair {
	t.Helper()
	p := made(t)
	var l []api.Change
	for _, s := range []string{"b", "a", "ab"} {
		for _, q := range []string{"q", "p", "a"} {
			for _, o := range []string{"c", "a", "b"} {
				l = append(l, come(s+" "+q+" "+o))
			}
		}
	}
	p.next(l...)
	p.next(gone("a p a"), gone("b q c"), come("z p z"))
	p.next(come("a p a"), gone("ab a b"))
	return p
}

// St2: each of the eight ways to leave words out, with words that are there at that place, at another one, or not at all.
func TestMatch(t *testing.T) {
	p := cube(t)
	texts := []string{"", "a", "b", "ab", "p", "q", "c", "z", "zz", "aaaaaaaaaaaaaaaa"}
	for _, s := range texts {
		for _, q := range texts {
			for _, o := range texts {
				p.matches(api.Triple{S: s, P: q, O: o})
			}
		}
	}
}

// St2: the same, spelt out.
func TestMatchSpelt(t *testing.T) {
	p := made(t)
	p.next(come("b p c"), come("a q c"), come("a p c"), come("a p b"), come("b q b"))
	for like, want := range map[api.Triple][]string{
		{}:                       {"a p b", "a p c", "a q c", "b p c", "b q b"},
		{S: "a"}:                 {"a p b", "a p c", "a q c"},
		{P: "p"}:                 {"a p b", "a p c", "b p c"},
		{O: "c"}:                 {"a p c", "a q c", "b p c"},
		{S: "a", P: "p"}:         {"a p b", "a p c"},
		{S: "a", O: "c"}:         {"a p c", "a q c"},
		{P: "p", O: "c"}:         {"a p c", "b p c"},
		{S: "a", P: "q", O: "c"}: {"a q c"},
		{S: "a", P: "q", O: "b"}: nil,
		{S: "c"}:                 nil,
		{O: "a"}:                 nil,
		{P: "a"}:                 nil,
	} {
		var facts []api.Triple
		for _, s := range want {
			facts = append(facts, triple(s))
		}
		if l, e := p.store.Match(1, like); !slices.Equal(l, facts) || e != api.OK {
			t.Errorf("Match of %v: %v, %d, want %v", like, l, e, facts)
		}
		if l, e := p.store.Match(0, like); len(l) != 0 || e != api.OK {
			t.Errorf("Match of %v at version 0: %v, %d", like, l, e)
		}
	}
}

// St2: a text that is no word is no fact's; that is no error.
func TestMatchNoWords(t *testing.T) {
	p := cube(t)
	for _, s := range noWords() {
		if s == "" {
			continue
		}
		for _, like := range append(places(s), api.Triple{S: s}, api.Triple{P: s}, api.Triple{O: s}, api.Triple{S: s, P: s, O: s}) {
			p.matches(like)
			if l, e := p.store.Match(3, like); len(l) != 0 || e != api.OK {
				t.Errorf("Match of %q: %v, %d", like, l, e)
			}
		}
	}
}

// sameHomes tells whether Homes answers as the book, for all numbers of workers, and for all workers of them and beside them.
func (p *pair) sameHomes() {
	p.t.Helper()
	for _, workers := range numbers() {
		for _, worker := range numbers() {
			if got, want := p.store.Homes(worker, workers), p.book.homes(worker, workers); got != want {
				p.t.Fatalf("Homes(%d, %d): %v", worker, workers, got)
			}
		}
	}
}

// numbers are those of workers that may be, and others.
func numbers() []int {
	l := []int{math.MinInt, -1 << 32, -64, -1, 128, 1 << 32, 1<<32 + 1, math.MaxInt}
	for n := range 67 {
		l = append(l, n)
	}
	return l
}

// subjectsOf are words that live at a worker.
func subjectsOf(t *testing.T, worker, workers, count int) []string {
	t.Helper()
	var l []string
	for i := 0; len(l) < count; i++ {
		s := "w" + strconv.Itoa(i)
		home, e := check.Home(s, workers)
		if e != api.OK {
			t.Fatal(e)
		}
		if home == worker {
			l = append(l, s)
		}
	}
	return l
}

// St2: of subjects that live all at one worker, that one and no other, for each number of workers; one more that lives elsewhere, and there is none.
func TestHomes(t *testing.T) {
	for workers := 1; workers <= 64; workers++ {
		for _, worker := range []int{0, workers / 2, workers - 1} {
			p := made(t)
			for _, s := range subjectsOf(t, worker, workers, 5) {
				// Where predicates and objects live does not matter.
				p.next(come(s+" p0 o1"), come(s+" p1 o2"), come(s+" p2 o3"))
			}
			for n := -2; n < workers+2; n++ {
				if p.store.Homes(n, workers) != (n == worker) {
					t.Errorf("Homes(%d, %d) of facts at %d: %v", n, workers, worker, n != worker)
				}
			}
			if workers == 1 {
				continue
			}
			other := (worker + 1) % workers
			p.next(come(subjectsOf(t, other, workers, 1)[0] + " p o"))
			if p.store.Homes(worker, workers) || p.store.Homes(other, workers) {
				t.Errorf("%d workers: facts of two have one home", workers)
			}
		}
	}
}

// St2: of all numbers, those that may not be among them.
func TestHomesNumbers(t *testing.T) {
	made(t).sameHomes()
	p := made(t)
	p.next(come("ann p b"))
	p.sameHomes()
	for _, workers := range []int{math.MinInt, -1, 0, 65, 128, math.MaxInt} {
		for _, worker := range []int{-1, 0, 1} {
			if p.store.Homes(worker, workers) {
				t.Errorf("Homes(%d, %d): true", worker, workers)
			}
		}
	}
	p.next(come("bob p c"), come("ann q c"))
	p.sameHomes()
}

// St2: without facts in any version, each subject of none is at home everywhere.
func TestHomesNoFacts(t *testing.T) {
	p := made(t)
	p.next()
	p.next(come("a p b"), gone("a p b"))
	p.next(gone("a p b"))
	if e := p.apply(3, []api.Change{come("a p b")}); e != api.ErrNext {
		t.Fatal(e)
	}
	p.sameHomes()
	for workers := 1; workers <= 64; workers++ {
		for worker := range workers {
			if !p.store.Homes(worker, workers) {
				t.Errorf("Homes(%d, %d) of no facts: false", worker, workers)
			}
		}
	}
}

// St2: a fact that an elder version alone has counts, too; one that no version has does not.
func TestHomesElder(t *testing.T) {
	for workers := 2; workers <= 64; workers++ {
		here, there := subjectsOf(t, 0, workers, 2), subjectsOf(t, workers-1, workers, 1)[0]
		p := made(t)
		p.next(come(here[0] + " p b"))
		p.next(come(there+" p b"), come(here[1]+" p b"), gone(there+" p b"))
		p.next(gone(there + " p b"))
		if !p.store.Homes(0, workers) {
			t.Errorf("%d workers: a fact of no version counts", workers)
		}
		p.next(come(there + " p b"))
		p.next(gone(there + " p b"))
		if p.store.Homes(0, workers) || p.store.Homes(workers-1, workers) {
			t.Errorf("%d workers: a fact of an elder version does not count", workers)
		}
		p.next(gone(here[0]+" p b"), gone(here[1]+" p b"))
		if p.store.Homes(0, workers) || p.store.Homes(workers-1, workers) {
			t.Errorf("%d workers: facts of elder versions alone do not count", workers)
		}
	}
	p := made(t)
	p.next(come("ann p b"))
	p.next(gone("ann p b"))
	p.sameHomes()
}

// St3, R2: behind each batch, done or refused by whichever error, each version is as it was.
func TestVersionsStay(t *testing.T) {
	p := made(t)
	r := rand.New(rand.NewSource(21))
	for range 150 {
		v := p.book.last()
		var l []api.Change
		for range r.Intn(20) {
			c := numbered(r.Intn(30), 30)[0]
			c.Gone = r.Intn(2) == 0
			l = append(l, c)
		}
		for _, wrong := range []struct {
			version int
			l       []api.Change
		}{
			{v, l}, {v + 2, l}, {-1, l},
			{v + 1, append(slices.Clone(l), api.Change{T: api.Triple{S: "a", P: "p", O: "B"}})},
			{v + 1, append(slices.Clone(l), api.Change{Gone: true})},
			{v + 1, slices.Concat(l, numbered(100, 165))},
		} {
			if p.apply(wrong.version, wrong.l) == api.OK {
				t.Fatal("a batch that may not be is done")
			}
			p.holds()
		}
		p.next(l...)
		p.holds()
	}
}

// St3, R2: a batch that is refused for its many facts is not done in part: neither what would go of it, nor what would come.
func TestFullStays(t *testing.T) {
	p := filled(t, 4090)
	l := slices.Concat(going(numbered(0, 20)), numbered(5000, 5027))
	if e := p.apply(p.book.last()+1, l); e != api.ErrFull {
		t.Fatal(e)
	}
	p.holds()
	for _, like := range []api.Triple{{}, {S: "s0"}, {S: "s5000"}, {P: "p3"}} {
		last := p.book.last()
		if got, e := p.store.Match(last, like); !slices.Equal(got, p.book.match(last, like)) || e != api.OK {
			t.Errorf("Match of %v: %d facts, %d", like, len(got), e)
		}
	}
	p.next(l[:len(l)-1]...)
	p.holds()
}

// St3: many versions, of facts that come, go, and come again.
func TestManyVersions(t *testing.T) {
	p := made(t)
	for i := range 1000 {
		c := numbered(i%37, 37)[0]
		c.Gone = i%5 > 2
		p.next(c)
	}
	p.holds()
	for i, like := range []api.Triple{{S: "s3"}, {P: "p3"}, {O: "o3"}, {S: "s3", O: "o3"}} {
		p.matches(like)
		if _, e := p.store.Match(1000-i, like); e != api.OK {
			t.Error(e)
		}
	}
}

// R3: changes that are handed in are not changed, what lies in the room behind them is neither read nor changed, and what becomes of them later changes nothing.
func TestHandedIn(t *testing.T) {
	given := func() []api.Change {
		return []api.Change{come("b p c"), come("a p b"), gone("a p b"), come("c p d"), come("a p a"), {T: api.Triple{S: "NO"}}, come("z z z")}
	}
	room := given()
	l := room[:5:7]
	p := made(t)
	p.next(l...)
	p.next(gone("b p c"))
	if !p.store.Room(l) || !slices.Equal(room, given()) {
		t.Error("what was handed in has changed")
	}
	p.holds()
	for i := range room {
		room[i] = come("x x x")
	}
	_ = append(l[:0], gone("a p a"))
	p.holds()
	if e := p.apply(9, l); e != api.ErrNext {
		t.Error(e)
	}
	p.next(room[:5]...)
	room[0] = come("y y y")
	p.holds()
}

// R3: what Facts and Match answered is new memory: what is done to it changes no store and no other answer, nor do later batches change it.
func TestAnswersAreNew(t *testing.T) {
	p := cube(t)
	asks := []func() []api.Triple{}
	for v := 1; v <= 3; v++ {
		for _, like := range []api.Triple{{}, {S: "a"}, {P: "p"}, {S: "a", P: "q", O: "c"}} {
			asks = append(asks, func() []api.Triple {
				l, e := p.store.Match(v, like)
				if e != api.OK {
					t.Fatal(e)
				}
				return l
			})
		}
		asks = append(asks, func() []api.Triple {
			l, e := p.store.Facts(v)
			if e != api.OK {
				t.Fatal(e)
			}
			return l
		})
	}
	for _, ask := range asks {
		first, second := ask(), ask()
		want := slices.Clone(second)
		for i := range first {
			first[i] = triple("x x x")
		}
		_ = append(first[:1], triple("y y y"))
		_ = append(second, triple("y y y"))
		if !slices.Equal(second, want) || !slices.Equal(ask(), want) {
			t.Error("two answers share memory")
		}
		p.next(gone("a p b"), come("0 0 0"))
		p.next(come("a p b"), gone("0 0 0"))
		if !slices.Equal(second, want) {
			t.Error("an answer has changed")
		}
	}
	p.holds()
}

// R3: words are taken by their bytes, whatever stands about them in the text that they are pieces of.
func TestPieces(t *testing.T) {
	text := "insert ann knows bob and forget bob knows ann"
	p := made(t)
	p.next(api.Change{T: api.Triple{S: text[7:10], P: text[11:16], O: text[17:20]}}, api.Change{T: api.Triple{S: text[32:35], P: text[36:41], O: text[42:]}})
	p.next(gone("bob knows ann"))
	p.holds()
	if l, e := p.store.Facts(2); !slices.Equal(l, []api.Triple{triple("ann knows bob")}) || e != api.OK {
		t.Errorf("Facts(2): %v, %d", l, e)
	}
}

// R1: nil, and stores that New did not give; a copy of one that it gave is none of these either.
func TestNotGiven(t *testing.T) {
	p := cube(t)
	copied := *p.store
	for name, s := range map[string]*store.Store{"nil": nil, "none": {}, "new": new(store.Store), "copied": &copied} {
		for range 2 {
			for _, version := range []int{math.MinInt, -1, 0, 1, 2, 3, 4, 5, math.MaxInt} {
				for _, l := range [][]api.Change{nil, {}, {come("a p b")}, {{}}, numbered(0, 65)} {
					if e := s.Apply(version, l); e != api.ErrArg {
						t.Errorf("%s: Apply(%d): %d", name, version, e)
					}
					if s.Room(l) {
						t.Errorf("%s: Room: true", name)
					}
				}
				if l, e := s.Facts(version); len(l) != 0 || e != api.ErrArg {
					t.Errorf("%s: Facts(%d): %v, %d", name, version, l, e)
				}
				for _, like := range []api.Triple{{}, {S: "a"}, {S: "B", P: " "}} {
					if l, e := s.Match(version, like); len(l) != 0 || e != api.ErrArg {
						t.Errorf("%s: Match(%d): %v, %d", name, version, l, e)
					}
				}
			}
			for _, workers := range numbers() {
				for _, worker := range []int{math.MinInt, -1, 0, 1, 63, 64} {
					if s.Homes(worker, workers) {
						t.Errorf("%s: Homes(%d, %d): true", name, worker, workers)
					}
				}
			}
			if v := s.Version(); v != 0 {
				t.Errorf("%s: Version: %d", name, v)
			}
		}
	}
	p.holds()
}

// R4: what is done to a store hangs on no other one, and the same calls answer the same.
func TestSideBySide(t *testing.T) {
	a, b, again := made(t), made(t), made(t)
	for i := range 60 {
		a.next(numbered(i, i+3)...)
		b.next(going(numbered(i, i+1))...)
		b.next(numbered(i/2, i/2+2)...)
		again.next(numbered(i, i+3)...)
	}
	for _, p := range []*pair{a, b, again} {
		p.holds()
		p.holds()
	}
	again.book = a.book
	again.holds()
}

// changesBy are changes that bytes say, of few words, so that triples come again and again; one text in many is no word.
func changesBy(script []byte) []api.Change {
	texts := []string{"a", "b", "ab", "-", "0", ":", "ba"}
	var l []api.Change
	for len(script) >= 2 {
		x, y := int(script[0]), int(script[1])
		c := api.Change{Gone: x%2 == 1, T: api.Triple{S: texts[x/2%7], P: texts[x/14%3], O: texts[y%7]}}
		if y == 255 {
			c.T.O = "A"
		}
		l = append(l, c)
		script = script[2:]
	}
	return l
}

// play does to a store and to a book what bytes say: batches, of versions that are mostly the next ones, and what is asked behind each.
func play(t *testing.T, script []byte) {
	t.Helper()
	p := made(t)
	// Each step asks for all versions, so that a long script would take far too long.
	script = script[:min(len(script), 300)]
	for len(script) > 0 {
		kind := int(script[0])
		length := min(kind/8, len(script)-1)
		l := changesBy(script[1 : 1+length])
		if kind%64 == 63 {
			l = slices.Repeat(l, 9)
		}
		version := p.book.last() + 1
		if kind%8 == 7 {
			version += kind/8%5 - 2
		}
		p.apply(version, l)
		p.holds()
		for _, c := range l[:min(len(l), 3)] {
			p.matches(api.Triple{S: c.T.S})
			p.matches(api.Triple{P: c.T.P, O: c.T.O})
			p.matches(c.T)
		}
		script = script[1+length:]
	}
	for workers := range 4 {
		for worker := range 3 {
			if got, want := p.store.Homes(worker, workers), p.book.homes(worker, workers); got != want {
				t.Fatalf("Homes(%d, %d): %v", worker, workers, got)
			}
		}
	}
}

// St1, St2, St3: many scripts that look like chance and are the same in every run.
func TestScripts(t *testing.T) {
	r := rand.New(rand.NewSource(71))
	for range 300 {
		script := make([]byte, r.Intn(400))
		r.Read(script)
		play(t, script)
	}
}

// FuzzScript: whatever batches there are, a store answers as the book does.
func FuzzScript(f *testing.F) {
	f.Add([]byte{})
	f.Add([]byte("\x20\x00\x01\x02\x03\x10\x01\x01\x20\x00\x01\x02\x03"))
	f.Add([]byte("\x10\x00\xff\x17\x00\x00\x10\x00\x00\x00\x00\xff\x02\x03\x04\x05\x06\x07\x08\x09"))
	f.Fuzz(play)
}
