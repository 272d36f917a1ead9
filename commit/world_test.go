package commit_test

import (
	"fmt"
	"math/rand"
	"slices"
	"strings"
	"testing"

	"sinew/api"
	"sinew/check"
	"sinew/commit"
	"sinew/flow"
	"sinew/wire"
)

// mail is a note under way, and what it must mean.
type mail struct {
	from, to int
	note     api.Note
	means    says
}

// world is a head and its workers with their journals, all of which is sure but the last note, if loose says so; and beside each of them one in the chapter's own words, that tells what it must answer.
type world struct {
	t       testing.TB
	workers int
	head    *commit.Head
	parts   []*commit.Part
	// books are the journals: the head's, and each worker's.
	books  [][]api.Note
	plain  *plainHead
	plains []*plainPart
	// under is what is under way, and all what ever was.
	under []mail
	all   []mail
	ids   []api.Id
	// careless is whoever calls: whatever was handed in, and answered, is written over then.
	careless bool
}

// newWorld is one in which nothing was done.
func newWorld(t testing.TB, workers int) *world {
	t.Helper()
	w := &world{t: t, workers: workers, books: make([][]api.Note, workers+1), plain: &plainHead{workers: workers}}
	for i := range workers {
		w.plains = append(w.plains, &plainPart{worker: i + 1, workers: workers, versions: []facts{{}}})
		w.parts = append(w.parts, nil)
	}
	for i := range workers + 1 {
		w.start(i)
	}
	return w
}

// full is a world in which one worker has room for few more facts than it has.
func full(t testing.TB, workers, worker, room int) *world {
	t.Helper()
	w := newWorld(t, workers)
	l := coming(homed("x", api.MaxShard-room, worker, workers)...)
	for i := 0; len(l) > 0; i++ {
		n := min(len(l), api.MaxChanges)
		w.batch(api.Id{Client: 9, Seq: i}, l[:n])
		l = l[n:]
	}
	w.all = nil
	return w
}

// copied is a world in which all nodes begin anew from the same journals.
func (w *world) copied() *world {
	w.t.Helper()
	c := &world{t: w.t, workers: w.workers, parts: make([]*commit.Part, w.workers), plain: &plainHead{workers: w.workers, attempts: slices.Clone(w.plain.attempts)}, ids: slices.Clone(w.ids)}
	for _, p := range w.plains {
		p.keep()
		c.plains = append(c.plains, p.was)
	}
	for i, b := range w.books {
		c.books = append(c.books, slices.Clone(b))
		c.anew(i, true)
	}
	return c
}

// start lets a node begin from its journal.
func (w *world) start(node int) {
	w.t.Helper()
	var e api.Errno
	book, back := w.lent(w.books[node]...)
	if node == 0 {
		w.head, e = commit.NewHead(w.workers, book)
	} else {
		w.parts[node-1], e = commit.NewPart(book)
	}
	back()
	if e != api.OK {
		w.t.Fatalf("node %d of %d does not begin from its journal: %d", node, w.workers, e)
	}
	w.stands(node)
}

// anew lets a node begin anew: its last note may not have survived.
func (w *world) anew(node int, survived bool) {
	w.t.Helper()
	if !survived {
		w.books[node] = w.books[node][:len(w.books[node])-1]
	}
	if node == 0 {
		w.plain.anew(survived)
	} else {
		w.plains[node-1].anew(survived)
	}
	w.start(node)
}

// stands is that a node stands as it must.
func (w *world) stands(node int) {
	w.t.Helper()
	if node == 0 {
		w.headStands()
	} else {
		w.partStands(w.plains[node-1], w.parts[node-1])
	}
}

func (w *world) headStands() {
	w.t.Helper()
	h, p := w.head, w.plain
	order := p.order()
	if h.Busy() != p.busy() || h.Version() != len(order) {
		w.t.Fatalf("Busy %t, Version %d, want %t, %d", h.Busy(), h.Version(), p.busy(), len(order))
	}
	l := h.Order()
	if !slices.EqualFunc(l, order, func(id api.Id, a attempt) bool { return id == a.id }) {
		w.t.Fatalf("Order: %v, want %v", l, order)
	}
	if w.careless {
		clear(l[:cap(l)])
	}
	w.endsOf(w.ids[max(0, len(w.ids)-3):])
	// Of many workers it takes long, and is held against the same when notes go.
	if w.workers < 10 || len(w.under)%16 == 0 {
		_, out := w.kept(nil, h.Again())
		w.isAgain(out)
	}
}

// endsOf is that the head tells how batches ended.
func (w *world) endsOf(ids []api.Id) {
	w.t.Helper()
	for _, id := range append([]api.Id{{}, {Client: -1, Seq: 1}}, ids...) {
		v, e := w.head.Ended(id)
		if want, err := w.plain.ended(id); v != want || e != err {
			w.t.Fatalf("Ended(%v): %d, %d, want %d, %d", id, v, e, want, err)
		}
	}
}

// isAgain is that notes go to all workers of which the head has not heard, in their order, and to no others.
func (w *world) isAgain(out []flow.Out) {
	w.t.Helper()
	to, _ := w.plain.again()
	if !slices.EqualFunc(out, to, func(o flow.Out, worker int) bool { return o.To == worker }) {
		w.t.Fatalf("notes go to %v, want %v", out, to)
	}
}

func (w *world) partStands(plain *plainPart, p *commit.Part) {
	w.t.Helper()
	s := p.Store()
	version := len(plain.versions) - 1
	if p.Waits() != plain.waits || s.Version() != version || !s.Homes(plain.worker-1, w.workers) {
		w.t.Fatalf("worker %d of %d waits: %t, has the version %d, want %t, %d", plain.worker, w.workers, p.Waits(), s.Version(), plain.waits, version)
	}
	if len(plain.facts()) > 1000 {
		return
	}
	if l, e := s.Facts(version); e != api.OK || len(l) != len(plain.facts()) {
		w.t.Fatalf("worker %d of %d has %d facts, %d, want %d", plain.worker, w.workers, len(l), e, len(plain.facts()))
	}
}

// versionsAre is that a worker has the facts of each version, but for many elder ones.
func (w *world) versionsAre(plain *plainPart, p *commit.Part) {
	w.t.Helper()
	for v, want := range plain.versions {
		if v%7 > 0 && v < len(plain.versions)-20 {
			continue
		}
		if l, e := p.Store().Facts(v); e != api.OK || !slices.Equal(l, want.sorted()) {
			w.t.Fatalf("worker %d of %d, version %d: %v, %d, want %v", plain.worker, w.workers, v, l, e, want.sorted())
		}
	}
}

// isNote is that a note is one that may be, and of this layer.
func (w *world) isNote(n api.Note) {
	w.t.Helper()
	if s, e := wire.Pack(n); n.Kind < 20 || n.Kind > 29 || e != api.OK || len(s) > 1<<15 {
		w.t.Fatalf("%v: %d bytes, %d", n, len(s), e)
	}
}

// writes is that a node writes one note, or none; it is in the journal then.
func (w *world) writes(node int, write []api.Note, one bool) {
	w.t.Helper()
	if len(write) > 1 || one != (len(write) == 1) {
		w.t.Fatalf("node %d writes %v, want one: %t", node, write, one)
	}
	for _, n := range write {
		w.isNote(n)
	}
	w.books[node] = append(w.books[node], write...)
}

// send lets notes go.
func (w *world) send(l []mail) {
	w.t.Helper()
	for _, m := range l {
		w.isNote(m.note)
	}
	w.under, w.all = append(w.under, l...), append(w.all, l...)
}

// mails are the head's notes.
func (w *world) mails(out []flow.Out) (l []mail) {
	w.t.Helper()
	_, out = w.kept(nil, out)
	w.isAgain(out)
	_, what := w.plain.again()
	for _, o := range out {
		l = append(l, mail{0, o.To, o.Note, what})
	}
	return l
}

// begin begins a batch: what goes then.
func (w *world) begin(id api.Id, l []api.Change) []mail {
	w.t.Helper()
	lent := append(slices.Clone(l), coming("behind")...)[:len(l)]
	write, out, e := w.head.Begin(id, lent)
	if !slices.Equal(lent, l) || lent[:len(l)+1][len(l)].T.S != "behind" {
		w.t.Fatalf("Begin has changed %v", l)
	}
	clear(lent)
	write, out = w.kept(write, out)
	if w.plain.busy() {
		if len(write) != 0 || len(out) != 0 || e != api.ErrBusy {
			w.t.Fatalf("Begin(%v), while one is under way: %v, %v, %d", id, write, out, e)
		}
		w.headStands()
		return nil
	}
	if e != api.OK {
		w.t.Fatalf("Begin(%v, %v): %d", id, l, e)
	}
	w.ids = append(w.ids, id)
	w.plain.begin(id, slices.Clone(l))
	w.writes(0, write, true)
	w.headStands()
	return w.mails(out)
}

// take lets a node take a note of another one: what it writes, and what goes.
func (w *world) take(to, from int, n api.Note) (write []api.Note, out []flow.Out) {
	w.t.Helper()
	l, back := w.lent(n)
	if to == 0 {
		write, out = w.head.Take(from, l[0])
	} else {
		write, out = w.parts[to-1].Take(l[0])
	}
	back()
	return w.kept(write, out)
}

// come lets a note come: what goes then, and whether one is written.
func (w *world) come(m mail) ([]mail, bool) {
	w.t.Helper()
	defer w.stands(m.to)
	write, out := w.take(m.to, m.from, m.note)
	if m.to == 0 {
		ends := w.plain.take(m.from, m.means)
		w.writes(0, write, ends)
		if ends {
			return w.mails(out), true
		}
		if len(out) != 0 {
			w.t.Fatalf("%v from %d ends nothing, and %v goes", m.means, m.from, out)
		}
		return nil, false
	}
	wrote, answer := w.plains[m.to-1].take(m.means, w.plain.attempts[m.means.number-1])
	w.writes(m.to, write, wrote)
	if answer == (says{}) {
		if len(out) != 0 {
			w.t.Fatalf("%v comes late to %d, and %v goes", m.means, m.to, out)
		}
		return nil, false
	}
	if len(out) != 1 || out[0].To != 0 {
		w.t.Fatalf("%v comes to %d, and %v goes, want %v", m.means, m.to, out, answer)
	}
	return []mail{{m.to, 0, out[0].Note, answer}}, wrote
}

// settle brings all that is under way, and what is sent again, till the head waits for nobody.
func (w *world) settle() {
	w.t.Helper()
	for round := 0; len(w.under) > 0 || w.head.Busy(); round++ {
		if round > 8 {
			w.t.Fatalf("it does not come to an end: %d notes under way", len(w.under))
		}
		if len(w.under) == 0 {
			w.send(w.mails(w.head.Again()))
		}
		l := w.under
		w.under = nil
		for _, m := range l {
			out, _ := w.come(m)
			w.send(out)
		}
	}
}

// agrees is that all workers have done the batches of the head's order, and their facts together are those behind them.
func (w *world) agrees() {
	w.t.Helper()
	w.endsOf(w.ids)
	want := facts{}
	for _, a := range w.plain.order() {
		want = want.with(a.l)
	}
	got := facts{}
	for i, p := range w.parts {
		if p.Waits() || p.Store().Version() != w.head.Version() {
			w.t.Fatalf("worker %d waits: %t, version %d, want %d", i+1, p.Waits(), p.Store().Version(), w.head.Version())
		}
		w.versionsAre(w.plains[i], p)
		l, _ := p.Store().Facts(p.Store().Version())
		for _, f := range l {
			got[f] = true
		}
	}
	if !slices.Equal(got.sorted(), want.sorted()) {
		w.t.Fatalf("all stores have %v, want %v", got.sorted(), want.sorted())
	}
}

// batch lets a batch begin and come to its end.
func (w *world) batch(id api.Id, l []api.Change) {
	w.t.Helper()
	w.send(w.begin(id, l))
	w.settle()
}

// homed are so many words that live with a worker, of so many, and begin with a text.
func homed(begin string, count, worker, workers int) (l []string) {
	for i := 0; len(l) < count; i++ {
		s := fmt.Sprint(begin, i)
		if home, _ := check.Home(s, workers); home == worker-1 {
			l = append(l, s)
		}
	}
	return l
}

// living are the changes whose subjects live with a worker, of so many.
func living(l []api.Change, worker, workers int) (some []api.Change) {
	for _, c := range l {
		if home, _ := check.Home(c.T.S, workers); home == worker-1 {
			some = append(some, c)
		}
	}
	return some
}

// coming are changes by which facts about subjects come.
func coming(subjects ...string) (l []api.Change) {
	for _, s := range subjects {
		l = append(l, api.Change{T: api.Triple{S: s, P: "p", O: "o"}})
	}
	return l
}

// going are changes by which they go.
func going(subjects ...string) []api.Change {
	l := coming(subjects...)
	for i := range l {
		l[i].Gone = true
	}
	return l
}

// someChanges are up to 12 changes by chance, few facts often.
func someChanges(r *rand.Rand) (l []api.Change) {
	for range 1 + r.Intn(12) {
		word := func(many int) string { return string(rune('a' + r.Intn(many))) }
		l = append(l, api.Change{Gone: r.Intn(3) == 0, T: api.Triple{S: word(12), P: word(2), O: word(2)}})
	}
	return l
}

// sum is that which a note has behind its numbers.
func sum(n api.Note) int {
	l := []string{fmt.Sprint(n.Kind)}
	for _, num := range n.Nums[:len(n.Nums)-1] {
		l = append(l, fmt.Sprint(num))
	}
	for _, row := range n.Rows {
		l = append(l, row...)
	}
	return check.Sum(strings.Join(l, " "))
}

// noteOf is a note of a body's bytes, whose sum is put right if it should be; false, if it is none.
func noteOf(body string, right bool) (api.Note, bool) {
	bytes := func(n int) string { return string([]byte{byte(n >> 24), byte(n >> 16), byte(n >> 8), byte(n)}) }
	n, _, e := wire.Unpack(bytes(len(body)) + bytes(check.Sum(body)) + body)
	if right && len(n.Nums) > 0 {
		n.Nums[len(n.Nums)-1] = sum(n)
	}
	return n, e == api.OK
}
