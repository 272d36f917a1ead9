package link_test

import (
	"math/rand"
	"slices"
	"testing"

	"sinew/api"
	"sinew/link"
)

// line is two ends, and packets under way between them, of which any may come next, be lost, or be there twice.
type line struct {
	t    *testing.T
	ends [2]*link.Link
	// epochs are those of the ends.
	epochs [2]int
	// under are the packets under way to each end.
	under [2][]string
	// put is what was put at each end since it began, or was told that the other one began anew, came what has come since then.
	put, came [2][]int
	next      int
}

func newLine(t *testing.T, epochs ...int) *line {
	return &line{t: t, epochs: [2]int(epochs), ends: [2]*link.Link{made(t, epochs[0]), made(t, epochs[1])}}
}

// putAt puts a payload that was never put ahead of it.
func (w *line) putAt(i int) {
	w.next++
	packets, e := w.ends[i].Put(payload(w.next))
	if e != api.OK {
		w.t.Fatalf("Put: %d", e)
	}
	w.put[i] = append(w.put[i], w.next)
	w.under[1-i] = append(w.under[1-i], packets...)
}

// lose lets a packet to an end be under way no more, and is that packet.
func (w *line) lose(i, at int) string {
	s := w.under[i][at]
	w.under[i] = slices.Delete(w.under[i], at, at+1)
	return s
}

// arrive lets a packet come to an end: what it brings is looked through, and what is answered is under way.
func (w *line) arrive(i int, s string) {
	w.t.Helper()
	known := w.ends[i].Other()
	c := w.ends[i].Take(s)
	w.under[1-i] = append(w.under[1-i], c.Packets...)
	if w.ends[i].Other() != known {
		w.came[i] = nil
	}
	if c.Anew {
		w.put[i] = nil
	}
	for _, n := range c.Payloads {
		w.came[i] = append(w.came[i], n.Nums[0])
	}
	w.look()
}

// look is Li3: of two ends that know each other, what has come is a beginning of what was put, and what waits is the rest, or some more.
func (w *line) look() {
	w.t.Helper()
	for i := range 2 {
		from := 1 - i
		if w.ends[i].Other() != w.epochs[from] || w.ends[from].Other() != w.epochs[i] {
			continue
		}
		came, put := w.came[i], w.put[from]
		if len(came) > len(put) || !slices.Equal(came, put[:len(came)]) {
			w.t.Fatalf("at %d has come %v, of %v", i, came, put)
		}
		if len(came)+w.ends[from].Waits() < len(put) {
			w.t.Fatalf("at %d has come %v, of %v, and %d wait", i, came, put, w.ends[from].Waits())
		}
	}
}

// whole is whether all has come, and nothing waits.
func (w *line) whole() bool {
	for i := range 2 {
		if !slices.Equal(w.came[i], w.put[1-i]) || w.ends[i].Waits() != 0 {
			return false
		}
	}
	return true
}

// step does one thing of those that may happen, by chance; of the packets that come so many of a hundred are there twice.
func (w *line) step(r *rand.Rand, lost, twice int) {
	i := r.Intn(2)
	switch at := len(w.under[i]); {
	case r.Intn(5) == 0:
		w.putAt(i)
	case r.Intn(12) == 0:
		w.under[1-i] = append(w.under[1-i], w.ends[i].Tick()...)
	case at == 0:
	case r.Intn(100) < lost:
		w.lose(i, r.Intn(at))
	case r.Intn(100) < twice:
		w.arrive(i, w.under[i][r.Intn(at)])
	default:
		w.arrive(i, w.lose(i, r.Intn(at)))
	}
}

// Li3: packets are lost, doubled and turned about; then all come, and all has come.
func TestLine(t *testing.T) {
	r := rand.New(rand.NewSource(153))
	came := 0
	for range 1500 {
		w := newLine(t, 1+r.Intn(3), one(r, 1, 2, 1<<40))
		lost, twice := one(r, 0, 10, 50, 90), one(r, 0, 10, 50)
		for range 20 + r.Intn(400) {
			w.step(r, lost, twice)
		}
		came += len(w.came[0]) + len(w.came[1])
		w.calm(func([]string) int { return 0 }, 1, r.Intn(2) == 0)
	}
	if came < 10000 {
		t.Errorf("%d came ahead of the calm", came)
	}
}

// calm is that both ends tick, again and again, till all has come and nothing waits: of each tick's packets some one comes, a number of times, and so does what is answered to it. What was under way is lost, or comes at last.
func (w *line) calm(which func(packets []string) int, times int, lost bool) {
	w.t.Helper()
	elder := w.under
	w.under = [2][]string{}
	for range 100000 {
		if w.whole() {
			break
		}
		for i := range 2 {
			packets := w.ends[i].Tick()
			if len(packets) == 0 {
				continue
			}
			for range times {
				w.arrive(1-i, packets[which(packets)])
			}
			for _, s := range w.under[i] {
				w.arrive(i, s)
			}
			w.under = [2][]string{}
		}
	}
	if !w.whole() {
		w.t.Fatalf("it has come: %v of %v, %v of %v; %d and %d wait", w.came[0], w.put[1], w.came[1], w.put[0], w.ends[0].Waits(), w.ends[1].Waits())
	}
	// What was under way changes nothing any more.
	for i := range elder {
		for _, s := range elder[i] {
			if !lost {
				w.arrive(i, s)
			}
		}
	}
	if !w.whole() {
		w.t.Fatal("what was under way has changed something")
	}
}

// Li3: of the packets of each tick one comes: the first, one by chance, each in turn, once or twice; by and by all has come.
func TestOneOfEachTick(t *testing.T) {
	r := rand.New(rand.NewSource(156))
	for _, many := range [][2]int{{0, 1}, {1, 0}, {1, 1}, {2, 3}, {10, 0}, {20, 30}, {65, 10}, {0, 130}} {
		turn := 0
		for _, which := range []func(packets []string) int{
			func([]string) int { return 0 },
			func(packets []string) int { return r.Intn(len(packets)) },
			func(packets []string) int { turn++; return turn % len(packets) },
		} {
			for _, times := range []int{1, 2} {
				w := newLine(t, 1, 4)
				for i := range 2 {
					for range many[i] {
						w.putAt(i)
					}
				}
				w.calm(which, times, true)
				if len(w.came[0]) != many[1] || len(w.came[1]) != many[0] {
					t.Fatalf("%d and %d have come, want %d and %d", len(w.came[1]), len(w.came[0]), many[0], many[1])
				}
			}
		}
	}
}

// Li3: as many as may wait, with packets that come behind one another, the last first or the first first.
func TestFullLine(t *testing.T) {
	for _, backward := range []bool{false, true} {
		w := newLine(t, 1, 1)
		for range 4096 {
			w.putAt(0)
		}
		w.under = [2][]string{}
		ticks := 0
		for ; w.ends[0].Waits() > 0 && ticks < 5000; ticks++ {
			packets := w.ends[0].Tick()
			if backward {
				slices.Reverse(packets)
			}
			for _, s := range packets {
				w.arrive(1, s)
			}
			for _, s := range w.under[0] {
				w.arrive(0, s)
			}
			w.under = [2][]string{}
		}
		// A first tick just lets the ends know each other.
		want := 1 + 4096/64
		if backward {
			want = 1 + 4096
		}
		if !w.whole() || ticks != want {
			t.Errorf("%d have come, %d wait, behind %d ticks, want %d", len(w.came[1]), w.ends[0].Waits(), ticks, want)
		}
	}
}

// choices are what may happen next on a line of which the first end puts two payloads at the most, and the other one one.
func (w *line) choices() (all []func()) {
	for i := range 2 {
		if len(w.put[i]) < 2-i {
			all = append(all, func() { w.putAt(i) })
		}
		if w.ends[i].Waits() > 0 {
			all = append(all, func() { w.under[1-i] = append(w.under[1-i], w.ends[i].Tick()...) })
		}
		for at, s := range w.under[i] {
			// Two that are the same are one choice.
			if slices.Index(w.under[i], s) == at {
				all = append(all, func() { w.arrive(i, w.lose(i, at)) }, func() { w.arrive(i, s) })
			}
		}
	}
	return all
}

// Li3: all that may happen, in all orders, up to some steps; whatever is not chosen is lost.
func TestAllOrders(t *testing.T) {
	runs := 0
	var taken, of []int
	for {
		w := newLine(t, 1, 2)
		for at := range 7 {
			all := w.choices()
			if at == len(taken) {
				taken, of = append(taken, 0), append(of, 0)
			}
			of[at] = len(all)
			all[taken[at]]()
		}
		runs++
		for len(taken) > 0 && taken[len(taken)-1] == of[len(taken)-1]-1 {
			taken, of = taken[:len(taken)-1], of[:len(taken)-1]
		}
		if len(taken) == 0 {
			break
		}
		taken[len(taken)-1]++
	}
	if runs < 10000 {
		t.Errorf("%d runs", runs)
	}
}

// What follows from Li2 for ends that begin anew: between two that know each other, what has come is a beginning of what was put since then.
func TestBeginAnew(t *testing.T) {
	r := rand.New(rand.NewSource(157))
	anew := 0
	for range 1000 {
		w := newLine(t, 1, 1)
		for range 300 {
			w.step(r, 20, 20)
			if i := r.Intn(2); r.Intn(40) == 0 {
				w.epochs[i] += 1 + r.Intn(2)
				w.ends[i], w.put[i], w.came[i] = made(t, w.epochs[i]), nil, nil
				anew++
			}
		}
		for i := range 2 {
			w.putAt(i)
		}
		// Behind all that was under way the ends know each other.
		for range 4 {
			for i := range 2 {
				w.under[1-i] = append(w.under[1-i], w.ends[i].Tick()...)
				for len(w.under[i]) > 0 {
					w.arrive(i, w.lose(i, 0))
				}
			}
		}
		for i := range 2 {
			w.putAt(i)
		}
		w.calm(func([]string) int { return 0 }, 1, false)
	}
	if anew < 5000 {
		t.Errorf("%d times anew", anew)
	}
}
