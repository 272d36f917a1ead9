package journal_test

import (
	"math"
	"math/rand"
	"slices"
	"strings"
	"testing"

	"sinew/api"
	"sinew/journal"
	"sinew/wire"
)

// paper is a journal in the chapter's own words: all its bytes as one text, of which a failure leaves a beginning, and the notes are those that can still be read there.
type paper struct {
	room  int
	bytes string
	sure  int
}

func (p *paper) write(n api.Note) api.Errno {
	s, e := wire.Pack(n)
	if e != api.OK {
		return api.ErrArg
	}
	if len(p.bytes+s) > p.room {
		return api.ErrRoom
	}
	p.bytes += s
	return api.OK
}

func (p *paper) begin(l []api.Note) api.Errno {
	all := ""
	for _, n := range l {
		s, e := wire.Pack(n)
		if e != api.OK {
			return api.ErrArg
		}
		all += s
	}
	if len(all) > p.room {
		return api.ErrRoom
	}
	p.bytes, p.sure = all, len(all)
	return api.OK
}

func (p *paper) fail(keep int) {
	survive := 0
	if keep > 0 {
		survive = keep % (len(p.bytes) - p.sure + 1)
	}
	there := p.bytes[:p.sure+survive]
	_, used := wire.All(there)
	p.bytes, p.sure = there[:used], used
}

func (p *paper) notes() []api.Note {
	l, _ := wire.All(p.bytes)
	return l
}

// Notes of many kinds.

func same(a, b api.Note) bool {
	return a.Kind == b.Kind && slices.Equal(a.Nums, b.Nums) && slices.Equal(a.Texts, b.Texts) &&
		slices.EqualFunc(a.Rows, b.Rows, slices.Equal)
}

// of is a list of so many equal things.
func of[T any](count int, v T) []T {
	l := make([]T, count)
	for i := range l {
		l[i] = v
	}
	return l
}

// someNotes are of unlike lengths, none like another.
func someNotes() []api.Note {
	return []api.Note{
		{Kind: 1},
		{Kind: 2, Nums: []int{300, 0, 1<<62 - 1}},
		{Kind: 255, Texts: []string{"ann", "", "\xff\x00"}},
		{Kind: 3, Nums: []int{7}, Texts: []string{"hi"}, Rows: [][]string{{"a", "b"}, nil, {""}}},
		{Kind: 4},
		{Kind: 5, Texts: []string{strings.Repeat("x", 300)}},
		{Kind: 6, Rows: [][]string{{"p", "q", "r"}}},
		{Kind: 4},
	}
}

// wrongNotes may not be, by each limit of layer 3.
func wrongNotes() map[string]api.Note {
	return map[string]api.Note{
		"no kind":          {},
		"kind below 0":     {Kind: -1},
		"kind 256":         {Kind: 256},
		"65 numbers":       {Kind: 1, Nums: of(65, 1)},
		"number below 0":   {Kind: 1, Nums: []int{-1}},
		"number 2^62":      {Kind: 1, Nums: []int{1 << 62}},
		"4097 texts":       {Kind: 1, Texts: of(4097, "")},
		"4097 with rows'":  {Kind: 1, Texts: of(4000, ""), Rows: [][]string{of(97, "")}},
		"4097 rows":        {Kind: 1, Rows: make([][]string, 4097)},
		"a text too long":  {Kind: 1, Texts: []string{strings.Repeat("x", 1<<16+1)}},
		"a body too long":  {Kind: 1, Texts: of(16, strings.Repeat("x", 1<<16))},
		"a byte too long":  bodySized(1<<20 + 1),
		"no kind but else": {Nums: []int{1}, Texts: []string{"a"}, Rows: [][]string{{"b"}}},
	}
}

// bodySized is a note whose body has just so many bytes, somewhat below or above 2^20.
func bodySized(size int) api.Note {
	// 2 of the kind, 1 of no numbers, 2 of how many texts, 4 of each text's length but of the last one's, which has 3, and 1 of no rows.
	full := of(15, strings.Repeat("r", 1<<16))
	return api.Note{Kind: 7, Texts: append(full, strings.Repeat("t", size-6-15*(4+1<<16)-3))}
}

func sizeOf(t *testing.T, l ...api.Note) int {
	t.Helper()
	size := 0
	for _, n := range l {
		s, e := wire.Pack(n)
		if e != api.OK {
			t.Fatalf("a note of kind %d may not be", n.Kind)
		}
		size += len(s)
	}
	return size
}

// Journals of many kinds.

func made(t *testing.T, room int) *journal.Journal {
	t.Helper()
	j, e := journal.New(room)
	if j == nil || e != api.OK {
		t.Fatalf("New(%d): %v, %d", room, j, e)
	}
	return j
}

func write(t *testing.T, j *journal.Journal, l ...api.Note) {
	t.Helper()
	for _, n := range l {
		if e := j.Write(n); e != api.OK {
			t.Fatalf("Write of kind %d: %d", n.Kind, e)
		}
	}
}

func makeSure(t *testing.T, j *journal.Journal) {
	t.Helper()
	if e := j.Sure(); e != api.OK {
		t.Fatalf("Sure: %d", e)
	}
}

// half is a journal of these notes, the first ones sure.
func half(t *testing.T, room int, sure, loose []api.Note) *journal.Journal {
	t.Helper()
	j := made(t, room)
	write(t, j, sure...)
	makeSure(t, j)
	write(t, j, loose...)
	return j
}

// holds tells whether a journal has just these notes, of which the first bytes are sure.
func holds(t *testing.T, name string, j *journal.Journal, notes []api.Note, sure int) {
	t.Helper()
	if l := j.Notes(); !slices.EqualFunc(l, notes, same) {
		t.Errorf("%s: Notes: %d of kinds %v, want %d of kinds %v", name, len(l), kinds(l), len(notes), kinds(notes))
	}
	if b, s := j.Size(); b != sizeOf(t, notes...) || s != sure {
		t.Errorf("%s: Size: %d, %d, want %d, %d", name, b, s, sizeOf(t, notes...), sure)
	}
}

func kinds(l []api.Note) []int {
	var k []int
	for _, n := range l[:min(len(l), 20)] {
		k = append(k, n.Kind)
	}
	return k
}

// refusedWrite tells that a note is refused, and why, and that nothing has changed.
func refusedWrite(t *testing.T, name string, j *journal.Journal, n api.Note, want api.Errno) {
	t.Helper()
	refused(t, name, j, want, func() api.Errno { return j.Write(n) })
}

func refusedBegin(t *testing.T, name string, j *journal.Journal, l []api.Note, want api.Errno) {
	t.Helper()
	refused(t, name, j, want, func() api.Errno { return j.Begin(l) })
}

func refused(t *testing.T, name string, j *journal.Journal, want api.Errno, call func() api.Errno) {
	t.Helper()
	notes := j.Notes()
	_, sure := j.Size()
	if e := call(); e != want {
		t.Errorf("%s: %d, want %d", name, e, want)
	}
	holds(t, name+", behind it", j, notes, sure)
}

// The chapter's example.
func TestExample(t *testing.T) {
	j := made(t, 100)
	a, b := api.Note{Kind: 1, Texts: []string{"a"}}, api.Note{Kind: 1, Texts: []string{"b"}}
	write(t, j, a)
	makeSure(t, j)
	write(t, j, b)
	if e := j.Fail(1); e != api.OK {
		t.Errorf("Fail(1): %d", e)
	}
	holds(t, "a alone", j, []api.Note{a}, sizeOf(t, a))
}

// Jo1: of which rooms there are journals.
func TestNew(t *testing.T) {
	for _, room := range []int{math.MinInt, -1 << 26, -1, 0, 1<<26 + 1, 1 << 27, 1<<32 + 1, math.MaxInt} {
		if j, e := journal.New(room); j != nil || e != api.ErrArg {
			t.Errorf("New(%d): %v, %d, want none and ErrArg", room, j, e)
		}
	}
	for _, room := range []int{1, 2, 12, 13, 4096, 1<<26 - 1, 1 << 26} {
		holds(t, "new", made(t, room), nil, 0)
	}
}

// Jo1: what is written is the last note, not sure, whatever was sure ahead of it.
func TestWrite(t *testing.T) {
	notes := someNotes()
	for sure := range len(notes) + 1 {
		j := made(t, 1<<20)
		for k, n := range notes {
			if k == sure {
				makeSure(t, j)
			}
			write(t, j, n)
			upTo := sizeOf(t, notes[:sure]...)
			if k < sure {
				upTo = 0
			}
			holds(t, "written", j, notes[:k+1], upTo)
		}
	}
}

// Jo1: a note that may not be changes nothing, be there room or not, notes or none.
func TestWriteMayNotBe(t *testing.T) {
	notes := someNotes()
	room := sizeOf(t, notes...)
	for name, n := range wrongNotes() {
		refusedWrite(t, name+", no notes", made(t, 1<<26), n, api.ErrArg)
		refusedWrite(t, name+", one byte of room", made(t, 1), n, api.ErrArg)
		refusedWrite(t, name+", some sure", half(t, 1<<26, notes[:3], notes[3:]), n, api.ErrArg)
		// Without room too, ErrArg is the one that the chapter names first.
		refusedWrite(t, name+", no room", half(t, room, notes[:3], notes[3:]), n, api.ErrArg)
	}
}

// Jo1: a note that just fits, and one that has one byte too many.
func TestWriteRoom(t *testing.T) {
	notes := someNotes()
	ahead, last := notes[:5], notes[5]
	room := sizeOf(t, notes[:6]...)

	j := half(t, room, ahead[:2], ahead[2:])
	write(t, j, last)
	holds(t, "just fits", j, notes[:6], sizeOf(t, ahead[:2]...))
	refusedWrite(t, "the least note, no room left", j, api.Note{Kind: 1}, api.ErrRoom)

	j = half(t, room-1, ahead[:2], ahead[2:])
	refusedWrite(t, "one byte too many", j, last, api.ErrRoom)
	write(t, j, notes[0])
	holds(t, "a shorter one", j, append(slices.Clip(ahead), notes[0]), sizeOf(t, ahead[:2]...))
}

// Jo1: the first note, in rooms about its length.
func TestWriteFirst(t *testing.T) {
	for _, n := range someNotes() {
		size := sizeOf(t, n)
		for room := 1; room < size; room++ {
			refusedWrite(t, "first, too little room", made(t, room), n, api.ErrRoom)
		}
		for _, room := range []int{size, size + 1, 1 << 26} {
			j := made(t, room)
			write(t, j, n)
			holds(t, "first", j, []api.Note{n}, 0)
		}
	}
}

// Jo1: the greatest room, filled to its last byte, by Write and by Begin.
func TestGreatestRoom(t *testing.T) {
	full := bodySized(1 << 20)
	rest := 1<<26 - 63*sizeOf(t, full)
	ahead, last, tooLong := of(63, full), bodySized(rest-8), bodySized(rest-7)
	whole := append(slices.Clip(ahead), last)

	j := made(t, 1<<26)
	write(t, j, ahead...)
	makeSure(t, j)
	if e := j.Write(tooLong); e != api.ErrRoom {
		t.Errorf("one byte too many: %d", e)
	}
	write(t, j, last)
	holds(t, "full", j, whole, 1<<26-rest)
	if e := j.Write(api.Note{Kind: 1}); e != api.ErrRoom {
		t.Errorf("the least note, no room left: %d", e)
	}
	if e := j.Fail(rest - 1); e != api.OK {
		t.Errorf("Fail: %d", e)
	}
	holds(t, "the last one torn", j, ahead, 1<<26-rest)

	if e := j.Begin(append(slices.Clip(ahead), tooLong)); e != api.ErrRoom {
		t.Errorf("Begin, one byte too many: %d", e)
	}
	holds(t, "refused", j, ahead, 1<<26-rest)
	if e := j.Begin(whole); e != api.OK {
		t.Errorf("Begin that just fits: %d", e)
	}
	holds(t, "begun", j, whole, 1<<26)
}

// Jo1: Sure of no notes, of one, of many; again; and of what is written behind it.
func TestSure(t *testing.T) {
	notes := someNotes()
	for count := range len(notes) + 1 {
		j := made(t, 1<<20)
		write(t, j, notes[:count]...)
		holds(t, "not sure", j, notes[:count], 0)
		for range 2 {
			makeSure(t, j)
			holds(t, "sure", j, notes[:count], sizeOf(t, notes[:count]...))
		}
		write(t, j, notes[0])
		more := append(slices.Clip(notes[:count]), notes[0])
		holds(t, "one more", j, more, sizeOf(t, notes[:count]...))
		makeSure(t, j)
		holds(t, "one more, sure", j, more, sizeOf(t, more...))
	}
}

// Jo1: many notes.
func TestManyNotes(t *testing.T) {
	var notes []api.Note
	for i := range 20000 {
		notes = append(notes, api.Note{Kind: 1 + i%255, Nums: []int{i}})
	}
	j := half(t, 1<<26, notes[:12000], notes[12000:])
	sure := sizeOf(t, notes[:12000]...)
	holds(t, "many", j, notes, sure)
	if e := j.Fail(sizeOf(t, notes[12000:17000]...) + 1); e != api.OK {
		t.Errorf("Fail: %d", e)
	}
	holds(t, "many, failed", j, notes[:17000], sizeOf(t, notes[:17000]...))
}

// Jo1: Begin of none, of one, of many, whatever stood there.
func TestBegin(t *testing.T) {
	notes := someNotes()
	for name, l := range map[string][]api.Note{
		"nil":       nil,
		"none":      {},
		"one":       notes[3:4],
		"many":      notes[2:],
		"as it was": notes[:4],
		"doubled":   {notes[0], notes[0]},
	} {
		for was, j := range map[string]*journal.Journal{
			"new":         made(t, 1<<20),
			"some sure":   half(t, 1<<20, notes[:2], notes[2:4]),
			"all sure":    half(t, 1<<20, notes[:4], nil),
			"none sure":   half(t, 1<<20, nil, notes[:4]),
			"longer list": half(t, 1<<20, notes, notes),
		} {
			if e := j.Begin(l); e != api.OK {
				t.Errorf("%s, %s: Begin: %d", name, was, e)
			}
			size := sizeOf(t, l...)
			holds(t, name+", "+was, j, l, size)
			if e := j.Fail(size - 1); e != api.OK {
				t.Errorf("%s, %s: Fail: %d", name, was, e)
			}
			holds(t, name+", "+was+", failed", j, l, size)
			write(t, j, notes[1])
			holds(t, name+", "+was+", written on", j, append(slices.Clip(l), notes[1]), size)
		}
	}
}

// Jo1: Begin of notes that just fit, though what stood there left no room for them, and that have one byte too many.
func TestBeginRoom(t *testing.T) {
	notes := someNotes()
	room := sizeOf(t, notes...)
	j := half(t, room, notes[:3], notes[3:])
	if e := j.Begin(notes); e != api.OK {
		t.Errorf("just fits: %d", e)
	}
	holds(t, "just fits", j, notes, room)
	refusedWrite(t, "no room left", j, api.Note{Kind: 1}, api.ErrRoom)

	least := api.Note{Kind: 1}
	for name, j := range map[string]*journal.Journal{
		"new":       made(t, room-1),
		"some sure": half(t, room-1, notes[:2], notes[2:4]),
	} {
		refusedBegin(t, name+", one byte too many", j, notes, api.ErrRoom)
		refusedBegin(t, name+", twice as many", j, append(slices.Clip(notes), notes...), api.ErrRoom)
		refusedBegin(t, name+", too long and a short one behind", j, []api.Note{bodySized(1 << 20), least}, api.ErrRoom)
		// What does not fit is not left out, be it first, in the midst or last.
		refusedBegin(t, name+", too long in the midst", j, []api.Note{least, bodySized(1 << 20), least}, api.ErrRoom)
		refusedBegin(t, name+", too long at the end", j, []api.Note{least, least, bodySized(1 << 20)}, api.ErrRoom)
	}
	refusedBegin(t, "one byte of room", made(t, 1), []api.Note{least}, api.ErrRoom)
	refusedBegin(t, "one byte too few", made(t, 12), []api.Note{least}, api.ErrRoom)
}

// Jo1: Begin of notes one of which may not be, at each place, be there room or not.
func TestBeginMayNotBe(t *testing.T) {
	notes := someNotes()
	for name, n := range wrongNotes() {
		for at := range len(notes) + 1 {
			l := slices.Insert(slices.Clone(notes), at, n)
			refusedBegin(t, name, half(t, 1<<20, notes[:2], notes[2:4]), l, api.ErrArg)
			refusedBegin(t, name+", no notes", made(t, 1<<20), l, api.ErrArg)
			// ErrArg is named first, whether what does not fit stands ahead of it or behind it.
			refusedBegin(t, name+", no room", half(t, 100, notes[:1], notes[1:2]), l, api.ErrArg)
			refusedBegin(t, name+", one byte of room", made(t, 1), l, api.ErrArg)
		}
	}
}

// Jo2: each keep, from below 0 to thrice as many as are not sure, at journals of which none, some and all are sure.
func TestFail(t *testing.T) {
	notes := someNotes()
	for sure := range len(notes) + 1 {
		for _, count := range []int{sure, min(sure+1, len(notes)), len(notes)} {
			failAtEachKeep(t, notes[:sure], notes[sure:count])
		}
	}
}

func failAtEachKeep(t *testing.T, sure, loose []api.Note) {
	t.Helper()
	all := append(slices.Clip(sure), loose...)
	size := sizeOf(t, loose...)
	for keep := -2; keep <= 3*size+4; keep++ {
		survive := max(keep, 0)
		for survive > size {
			survive -= size + 1
		}
		whole := len(sure)
		for whole < len(all) && sizeOf(t, all[len(sure):whole+1]...) <= survive {
			whole++
		}
		j := half(t, 1<<20, sure, loose)
		if e := j.Fail(keep); e != api.OK {
			t.Fatalf("Fail(%d): %d", keep, e)
		}
		holds(t, "failed", j, all[:whole], sizeOf(t, all[:whole]...))
		if t.Failed() {
			t.Fatalf("Fail(%d) of %d bytes that are not sure", keep, size)
		}
	}
}

// Jo2: the least and the greatest keeps.
func TestFailFar(t *testing.T) {
	notes := someNotes()[:4]
	sure := sizeOf(t, notes[:2]...)
	loose := sizeOf(t, notes[2:]...)
	for keep, count := range map[int]int{
		math.MinInt:                 2,
		math.MinInt + 1:             2,
		-1 << 32:                    2,
		-loose:                      2,
		-1:                          2,
		0:                           2,
		loose:                       4,
		loose + 1:                   2,
		2*loose + 1:                 4,
		2*loose + 2:                 2,
		(1<<40)*(loose+1) - 1:       4,
		(1 << 40) * (loose + 1):     2,
		(1<<40)*(loose+1) + loose:   4,
		(1<<40)*(loose+1) + loose/2: wholeOf(t, notes, sure+loose/2),
		math.MaxInt:                 wholeOf(t, notes, sure+math.MaxInt%(loose+1)),
	} {
		j := half(t, 1<<20, notes[:2], notes[2:])
		if e := j.Fail(keep); e != api.OK {
			t.Errorf("Fail(%d): %d", keep, e)
		}
		holds(t, "failed far", j, notes[:count], sizeOf(t, notes[:count]...))
	}
}

// wholeOf is how many of the notes have all their bytes among the first so many.
func wholeOf(t *testing.T, notes []api.Note, bytes int) int {
	t.Helper()
	k := 0
	for k < len(notes) && sizeOf(t, notes[:k+1]...) <= bytes {
		k++
	}
	return k
}

// Jo2: a journal without notes, and one of which all is sure, lose nothing, whatever keep is.
func TestFailNothing(t *testing.T) {
	notes := someNotes()
	for _, keep := range []int{math.MinInt, -1, 0, 1, 2, 13, 1000, math.MaxInt} {
		j, k := made(t, 1), half(t, 1<<20, notes, nil)
		if j.Fail(keep) != api.OK || k.Fail(keep) != api.OK {
			t.Errorf("Fail(%d) is refused", keep)
		}
		holds(t, "no notes", j, nil, 0)
		holds(t, "all sure", k, notes, sizeOf(t, notes...))
	}
}

// Jo2, Jo3: a failure behind a failure loses nothing more; what is torn leaves its room.
func TestFailAgain(t *testing.T) {
	notes := someNotes()
	room := sizeOf(t, notes[:4]...)
	torn := sizeOf(t, notes[2]) + 1
	for _, keep := range []int{-1, 0, 1, 5, 1 << 30} {
		j := half(t, room, notes[:2], notes[2:4])
		if e := j.Fail(torn); e != api.OK {
			t.Errorf("Fail: %d", e)
		}
		holds(t, "torn", j, notes[:3], sizeOf(t, notes[:3]...))
		if e := j.Fail(keep); e != api.OK {
			t.Errorf("Fail(%d): %d", keep, e)
		}
		holds(t, "failed again", j, notes[:3], sizeOf(t, notes[:3]...))
		write(t, j, notes[3])
		holds(t, "as much as ahead of it", j, notes[:4], sizeOf(t, notes[:3]...))
		if e := j.Fail(0); e != api.OK {
			t.Errorf("Fail(0): %d", e)
		}
		holds(t, "none of it", j, notes[:3], sizeOf(t, notes[:3]...))
	}
}

// Jo3: writing on behind a failure, at each place where the bytes may be cut.
func TestWriteOn(t *testing.T) {
	notes := someNotes()
	sure, loose, more := notes[:2], notes[2:5], notes[5:]
	for keep := range sizeOf(t, loose...) + 1 {
		j := half(t, 1<<20, sure, loose)
		if e := j.Fail(keep); e != api.OK {
			t.Errorf("Fail(%d): %d", keep, e)
		}
		there := slices.Clip(notes[:wholeOf(t, notes[:5], sizeOf(t, sure...)+keep)])
		write(t, j, more...)
		holds(t, "written on", j, append(there, more...), sizeOf(t, there...))
		if e := j.Fail(sizeOf(t, more[:2]...)); e != api.OK {
			t.Errorf("Fail: %d", e)
		}
		there = append(there, more[:2]...)
		holds(t, "written on and failed", j, there, sizeOf(t, there...))
	}
}

// Jo3: whatever was done ahead, behind a failure the notes are the first ones of those that were written, all sure ones among them.
func TestFirstOnes(t *testing.T) {
	r := rand.New(rand.NewSource(4))
	notes := someNotes()
	for range 2000 {
		j := made(t, 1<<14)
		var written []api.Note
		sure := 0
		for range r.Intn(30) {
			switch r.Intn(6) {
			default:
				n := notes[r.Intn(len(notes))]
				if j.Write(n) == api.OK {
					written = append(written, n)
				}
			case 0:
				makeSure(t, j)
				sure = len(written)
			case 1:
				if e := j.Fail(r.Intn(2000) - 100); e != api.OK {
					t.Fatalf("Fail: %d", e)
				}
				l := j.Notes()
				if len(l) < sure || len(l) > len(written) || !slices.EqualFunc(l, written[:len(l)], same) {
					t.Fatalf("%d notes behind a failure, of %d, %d of them sure: kinds %v of %v", len(l), len(written), sure, kinds(l), kinds(written))
				}
				written, sure = l, len(l)
			}
		}
	}
}

// R1: nil, and journals that New did not give; a copy of one that it gave is none of these either.
func TestNotGiven(t *testing.T) {
	given := half(t, 1<<20, someNotes()[:1], someNotes()[1:2])
	copied := *given
	for name, j := range map[string]*journal.Journal{
		"nil":    nil,
		"none":   {},
		"new":    new(journal.Journal),
		"copied": &copied,
	} {
		for range 2 {
			if e := j.Write(api.Note{Kind: 1}); e != api.ErrArg {
				t.Errorf("%s: Write: %d", name, e)
			}
			if e := j.Write(api.Note{}); e != api.ErrArg {
				t.Errorf("%s: Write of none: %d", name, e)
			}
			if e := j.Sure(); e != api.ErrArg {
				t.Errorf("%s: Sure: %d", name, e)
			}
			if l := j.Notes(); len(l) != 0 {
				t.Errorf("%s: Notes: %d", name, len(l))
			}
			if b, s := j.Size(); b != 0 || s != 0 {
				t.Errorf("%s: Size: %d, %d", name, b, s)
			}
			for _, keep := range []int{math.MinInt, -1, 0, 1, math.MaxInt} {
				if e := j.Fail(keep); e != api.ErrArg {
					t.Errorf("%s: Fail(%d): %d", name, keep, e)
				}
			}
			for _, l := range [][]api.Note{nil, {}, {{Kind: 1}}, {{}}} {
				if e := j.Begin(l); e != api.ErrArg {
					t.Errorf("%s: Begin of %d: %d", name, len(l), e)
				}
			}
		}
	}
	holds(t, "the one that was copied", given, someNotes()[:2], sizeOf(t, someNotes()[0]))
}

// ownNote is a note of lists of its own, with something in the room behind their ends.
func ownNote() api.Note {
	return api.Note{
		Kind:  9,
		Nums:  []int{1, 2, -1}[:2],
		Texts: []string{"a", "b", "behind"}[:2],
		Rows:  [][]string{[]string{"c", "d", "behind"}[:2], {"e"}, {"behind"}}[:2],
	}
}

func spoil(n api.Note) {
	n.Nums[0] = 99
	n.Texts[0] = "zz"
	n.Rows[0][0] = "zz"
	n.Rows[1] = nil
}

// R3: what is handed in is not changed, nor what lies behind a list's end; and what is done to it later changes no journal.
func TestHandedIn(t *testing.T) {
	a, b := ownNote(), ownNote()
	j, k := made(t, 1<<12), made(t, 1<<12)
	write(t, j, a)
	l := []api.Note{b, {Kind: 2}, {}}
	if e := k.Begin(l[:2]); e != api.OK {
		t.Errorf("Begin reads behind a list's end: %d", e)
	}
	if l[2].Kind != 0 || !same(l[0], ownNote()) || !same(a, ownNote()) {
		t.Error("what was handed in has changed")
	}
	if a.Nums[:3][2] != -1 || a.Texts[:3][2] != "behind" || a.Rows[:3][2][0] != "behind" || a.Rows[0][:3][2] != "behind" {
		t.Error("what lies behind a list's end has changed")
	}
	spoil(a)
	spoil(b)
	l[1].Kind = 77
	holds(t, "written", j, []api.Note{ownNote()}, 0)
	holds(t, "begun", k, []api.Note{ownNote(), {Kind: 2}}, sizeOf(t, ownNote(), api.Note{Kind: 2}))
}

// R3: answers are new memory: what is done to one changes no journal and no other answer.
func TestAnswersAreNew(t *testing.T) {
	j := half(t, 1<<12, []api.Note{ownNote()}, []api.Note{ownNote()})
	first, second := j.Notes(), j.Notes()
	spoil(first[0])
	if !same(first[1], ownNote()) {
		t.Error("two notes of an answer share memory")
	}
	spoil(first[1])
	first[1].Kind = 77
	if !slices.EqualFunc(second, []api.Note{ownNote(), ownNote()}, same) {
		t.Error("two answers share memory")
	}
	holds(t, "behind all that", j, []api.Note{ownNote(), ownNote()}, sizeOf(t, ownNote()))

	// What is written later over bytes that a failure took changes no earlier answer.
	if e := j.Fail(0); e != api.OK {
		t.Errorf("Fail: %d", e)
	}
	write(t, j, api.Note{Kind: 9, Nums: []int{8, 8}, Texts: []string{"y", "y"}, Rows: [][]string{{"y", "y"}, {"y"}}})
	if !slices.EqualFunc(second, []api.Note{ownNote(), ownNote()}, same) {
		t.Error("an earlier answer has changed")
	}
}

// R4: what is done to a journal hangs on no other one, one that it was begun with the notes of among them.
func TestSideBySide(t *testing.T) {
	notes := someNotes()
	j := half(t, 1<<12, notes[:2], notes[2:3])
	k := made(t, 1<<12)
	if e := k.Begin(j.Notes()); e != api.OK {
		t.Errorf("Begin: %d", e)
	}
	write(t, j, notes[3])
	write(t, k, notes[4], notes[5])
	if e := j.Fail(0); e != api.OK {
		t.Errorf("Fail: %d", e)
	}
	write(t, j, notes[6])
	holds(t, "one", j, []api.Note{notes[0], notes[1], notes[6]}, sizeOf(t, notes[:2]...))
	holds(t, "the other", k, []api.Note{notes[0], notes[1], notes[2], notes[4], notes[5]}, sizeOf(t, notes[:3]...))
	if e := j.Begin(j.Notes()); e != api.OK {
		t.Errorf("Begin with its own: %d", e)
	}
	holds(t, "begun with its own", j, []api.Note{notes[0], notes[1], notes[6]}, sizeOf(t, notes[0], notes[1], notes[6]))
}

// play does to a journal and to paper what bytes say, and tells where they differ.
func play(t *testing.T, room int, script []byte) {
	t.Helper()
	j, e := journal.New(room)
	if e != api.OK {
		if room >= 1 && room <= 1<<26 || j != nil || e != api.ErrArg {
			t.Fatalf("New(%d): %v, %d", room, j, e)
		}
		return
	}
	p := &paper{room: room}
	// Each step reads the whole journal, so that a long script would take far too long.
	script = script[:min(len(script), 200)]
	for ; len(script) >= 2; script = script[2:] {
		var got, want api.Errno
		arg := int(script[1])
		switch script[0] % 8 {
		default:
			got, want = j.Write(noteBy(arg)), p.write(noteBy(arg))
		case 4:
			got = j.Sure()
			p.sure = len(p.bytes)
		case 5:
			l := notesBy(arg)
			got, want = j.Begin(l), p.begin(l)
		case 6:
			got = j.Fail(arg - 9)
			p.fail(arg - 9)
		case 7:
			got = j.Fail(arg * arg * arg)
			p.fail(arg * arg * arg)
		}
		if got != want {
			t.Fatalf("step %d %d: %d, want %d", script[0]%8, arg, got, want)
		}
		holds(t, "played", j, p.notes(), p.sure)
	}
}

// noteBy is a note for each number, of unlike lengths; one in sixteen may not be.
func noteBy(arg int) api.Note {
	return api.Note{Kind: arg % 16, Nums: of(arg/16%4, arg), Texts: of(arg/64, strings.Repeat("t", arg%7))}
}

func notesBy(arg int) []api.Note {
	var l []api.Note
	for i := range arg % 5 {
		l = append(l, noteBy(arg+3*i))
	}
	return l
}

// Jo1, Jo2: many scripts that look like chance and are the same in every run.
func TestScripts(t *testing.T) {
	r := rand.New(rand.NewSource(11))
	for range 3000 {
		script := make([]byte, 2+r.Intn(80))
		r.Read(script)
		play(t, 1+r.Intn(300), script)
	}
}

// FuzzScript: whatever is done to a journal, it answers as the paper does.
func FuzzScript(f *testing.F) {
	f.Add(60, []byte{0, 1, 0, 2, 4, 0, 0, 3, 6, 10})
	f.Add(100, []byte{5, 4, 0, 33, 0, 77, 7, 3, 0, 5})
	f.Add(0, []byte{})
	f.Fuzz(play)
}
