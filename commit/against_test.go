package commit_test

import (
	"fmt"
	"math/rand"
	"slices"
	"sync"
	"testing"

	"sinew/api"
)

// storm is what may become of a world: notes lost, told again and turned about, and nodes that begin anew.
type storm struct {
	*rand.Rand
	*world
	// seq is how many batches were asked for, and lost is what the last one was that may be asked for again.
	seq int
	// crashes are how many nodes begin anew, of 1000 calls, if there is one worker.
	crashes int
	// counts are what has happened, by its name.
	counts map[string]int
}

// falls tells whether a node that was just called begins anew, ahead of sending what it was told: then what it wrote may not have survived.
func (s *storm) falls(node int, wrote bool) bool {
	s.t.Helper()
	// Of many workers more calls make a batch.
	if s.Intn(500*(s.workers+1)) >= s.crashes {
		return false
	}
	survived := !wrote || s.Intn(2) == 0
	if !survived {
		s.counts["torn"]++
	}
	s.counts["anew"]++
	s.anew(node, survived)
	return true
}

// ask asks for a batch: a new one, or the last one again, if it was lost.
func (s *storm) ask() {
	s.t.Helper()
	id, l := api.Id{Client: 1 + s.Intn(8), Seq: s.seq}, someChanges(s.Rand)
	if n := len(s.plain.attempts); n > 0 && s.plain.last().ends == wasLost && s.Intn(2) == 0 {
		id, l = s.plain.last().id, s.plain.last().l
		if !s.plain.busy() {
			s.counts["asked again"]++
		}
	}
	s.seq++
	if out := s.begin(id, l); out != nil && !s.falls(0, true) {
		s.send(out)
	}
}

// arrive lets something that is under way come, or something that came once.
func (s *storm) arrive() {
	s.t.Helper()
	if len(s.under) == 0 {
		return
	}
	at := s.Intn(len(s.under))
	m := s.under[at]
	s.under = append(s.under[:at:at], s.under[at+1:]...)
	if s.Intn(10) == 0 {
		// Late notes are of batches that began: but for one that was torn from the head's journal, and of which nothing went.
		m = s.all[s.Intn(len(s.all))]
		s.counts["late"]++
	}
	out, wrote := s.come(m)
	if !s.falls(m.to, wrote) {
		s.send(out)
	}
}

// happen is one thing that happens.
func (s *storm) happen() {
	s.t.Helper()
	switch k := s.Intn(100); {
	case k < 14 && s.Intn(s.workers+1) > 1:
		s.arrive()
	case k < 8:
		s.ask()
	case k < 14:
		s.send(s.mails(s.head.Again()))
	case k < 22 && len(s.under) > 0:
		at := s.Intn(len(s.under))
		s.under = append(s.under[:at:at], s.under[at+1:]...)
		s.counts["dropped"]++
	case k < 28 && len(s.under) > 0:
		s.under = append(s.under, s.under[s.Intn(len(s.under))])
		s.counts["doubled"]++
	case k < 29:
		s.falls(s.Intn(s.workers+1), false)
	default:
		s.arrive()
	}
}

// rage lets much happen, and then all come to its end.
func (s *storm) rage(steps int) {
	s.t.Helper()
	for range steps {
		s.happen()
	}
	s.settle()
	s.agrees()
	for _, a := range s.plain.attempts {
		s.counts[[]string{"open", "done", "refused", "lost"}[a.ends]]++
	}
}

// chanceCrashes is how often nodes begin anew.
func chanceCrashes(r *rand.Rand) int {
	return []int{0, 10, 50, 150}[r.Intn(4)]
}

// Co4: whatever notes are lost, told again and turned about, and whoever begins anew: each node answers as the chapter says, and in the end all workers have done the same batches.
func TestStorms(t *testing.T) {
	for i, way := range []struct{ workers, worlds, steps int }{{1, 300, 300}, {2, 300, 500}, {3, 200, 700}, {8, 100, 3000}, {64, 50, 25000}} {
		t.Run(fmt.Sprint(way.workers), func(t *testing.T) {
			t.Parallel()
			r := rand.New(rand.NewSource(int64(182 + i)))
			counts := map[string]int{}
			for range way.worlds {
				s := &storm{Rand: r, world: newWorld(t, way.workers), crashes: chanceCrashes(r), counts: counts}
				s.rage(way.steps)
			}
			isAll(t, counts, 10, "anew", "torn", "dropped", "doubled", "late", "asked again", "done", "lost")
		})
	}
}

// The same, with a worker that has room for few facts, and votes against much.
func TestStormsWithoutRoom(t *testing.T) {
	for i, workers := range []int{1, 2, 5} {
		t.Run(fmt.Sprint(workers), func(t *testing.T) {
			t.Parallel()
			r := rand.New(rand.NewSource(int64(190 + i)))
			counts := map[string]int{}
			for room := range 4 {
				w := full(t, workers, 1+r.Intn(workers), room)
				for range 4 {
					s := &storm{Rand: r, world: w.copied(), crashes: chanceCrashes(r), counts: counts}
					s.rage(1000)
				}
			}
			isAll(t, counts, 3, "anew", "torn", "dropped", "doubled", "late", "asked again", "done", "refused", "lost")
		})
	}
}

// isAll is that things have happened often.
func isAll(t *testing.T, counts map[string]int, least int, names ...string) {
	t.Helper()
	for _, name := range names {
		if counts[name] < least {
			t.Errorf("%s: %d times", name, counts[name])
		}
	}
}

// R4: the same calls have the same answers, also at the same time of other nodes.
func TestSameAnswers(t *testing.T) {
	play := func(seed int64) []mail {
		s := &storm{Rand: rand.New(rand.NewSource(seed)), world: newWorld(t, 3), crashes: 20, counts: map[string]int{}}
		s.rage(300)
		return s.all
	}
	var first [][]mail
	for seed := range 20 {
		first = append(first, play(int64(seed)))
	}
	same := func(a, b mail) bool { return a.from == b.from && a.to == b.to && sameNote(a.note, b.note) }
	var wait sync.WaitGroup
	for range 6 {
		wait.Go(func() {
			for seed, want := range first {
				if !slices.EqualFunc(play(int64(seed)), want, same) {
					t.Errorf("seed %d: other notes went", seed)
				}
			}
		})
	}
	wait.Wait()
}
