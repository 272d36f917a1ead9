package field_test

import (
	"maps"
	"math/rand"
	"slices"
	"strconv"
	"testing"

	"sinew/api"
	"sinew/field"
)

// sender sends, copies and lets arrive, and knows of each number that was given what was sent with it, or what it is a copy of.
type sender struct {
	t     *testing.T
	f     *field.Field
	nodes int
	sent  map[int]api.Packet
	under map[int]bool
}

func newSender(t *testing.T, nodes int) *sender {
	return &sender{t: t, f: made(t, nodes), nodes: nodes, sent: map[int]api.Packet{}, under: map[int]bool{}}
}

// numbered is a number that must not have been given, with what belongs to it.
func (s *sender) numbered(n int, e api.Errno, p api.Packet) {
	s.t.Helper()
	if _, ok := s.sent[n]; ok || e != api.OK || n != len(s.sent)+1 {
		s.t.Fatalf("number %d, %d, behind %d numbers (given ahead: %t)", n, e, len(s.sent), ok)
	}
	p.Id = n
	s.sent[n], s.under[n] = p, true
}

// send sends bytes that are sent but once.
func (s *sender) send() {
	s.t.Helper()
	k := len(s.sent)
	p := api.Packet{From: k % s.nodes, To: k * k % s.nodes, Bytes: "of " + strconv.Itoa(k)}
	n, e := s.f.Send(p.From, p.To, p.Bytes)
	s.numbered(n, e, p)
}

func (s *sender) copy(id int) {
	s.t.Helper()
	n, e := s.f.Copy(id)
	s.numbered(n, e, s.sent[id])
}

func (s *sender) arrive(id int) {
	s.t.Helper()
	if p, e := s.f.Arrive(id); p != s.sent[id] || e != api.OK {
		s.t.Fatalf("Arrive(%d): %v, %d, want %v", id, p, e, s.sent[id])
	}
	delete(s.under, id)
	if p, e := s.f.Arrive(id); p != (api.Packet{}) || e != api.ErrNone {
		s.t.Fatalf("Arrive(%d) once more: %v, %d, want ErrNone", id, p, e)
	}
}

// ids are the numbers under way, rising.
func (s *sender) ids() []int {
	return slices.Sorted(maps.Keys(s.under))
}

// Fd2: runs in any order.
func TestNumbersOnce(t *testing.T) {
	r := rand.New(rand.NewSource(164))
	for run := range 400 {
		s := newSender(t, 1+r.Intn(65))
		for range 200 {
			l := s.ids()
			switch k := r.Intn(6 + run%5); {
			case len(l) == 0 || k == 0:
				s.send()
			case k < 3:
				s.copy(one(r, l...))
			default:
				s.arrive(one(r, l...))
			}
		}
		numbers(t, s.f, s.ids()...)
		for len(s.under) > 0 {
			s.arrive(one(r, s.ids()...))
		}
		numbers(t, s.f)
	}
}

// Fd2: runs that let arrive whatever is picked, till nothing is under way, again and again.
func TestNumbersPicked(t *testing.T) {
	r := rand.New(rand.NewSource(165))
	s := newSender(t, 3)
	for range 100 {
		for range 1 + r.Intn(30) {
			s.send()
		}
		for range r.Intn(30) {
			s.copy(s.f.Pick(r.Int() - r.Int()))
		}
		for id := s.f.Pick(r.Int()); id != -1; id = s.f.Pick(r.Int() - r.Int()) {
			s.arrive(id)
		}
		if len(s.under) != 0 {
			t.Fatalf("nothing is picked, and %d are under way", len(s.under))
		}
	}
}

// Fd2: copies of copies, each of the one that was made last, while those ahead of it arrive, or not.
func TestCopiesOfCopies(t *testing.T) {
	for _, arriveAhead := range []bool{false, true} {
		s := newSender(t, 7)
		for range 5 {
			s.send()
		}
		for k := 1; k <= 2000; k++ {
			s.copy(k)
			if arriveAhead {
				s.arrive(k)
			}
		}
		// The number k has the bytes of the first five, round and round.
		for _, id := range s.ids() {
			if got, want := s.sent[id].Bytes, "of "+strconv.Itoa((id-1)%5); got != want {
				t.Fatalf("number %d: %q, want %q", id, got, want)
			}
			s.arrive(id)
		}
		numbers(t, s.f)
	}
}

// Fd2: all orders in which four that are under way, two of them copies, may arrive.
func TestAllOrders(t *testing.T) {
	var run func(order []int)
	orders := 0
	run = func(order []int) {
		s := newSender(t, 2)
		s.send()
		s.copy(1)
		s.send()
		s.copy(2)
		for _, id := range order {
			s.arrive(id)
		}
		numbers(t, s.f, s.ids()...)
		orders++
		for id := range s.under {
			run(append(order[:len(order):len(order)], id))
		}
	}
	run(nil)
	if orders != 1+4+12+24+24 {
		t.Errorf("%d orders", orders)
	}
}
