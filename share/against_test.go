package share_test

import (
	"cmp"
	"math"
	"math/rand"
	"slices"
	"strconv"
	"testing"

	"sinew/api"
	"sinew/share"
)

// asked is the arguments of Shares.
type asked struct {
	workers, vars int
	atoms         [][]int
	sizes         []int
}

// shares is what Shares answers.
func (a asked) shares() ([]int, api.Errno) {
	return share.Shares(a.workers, a.vars, a.atoms, a.sizes)
}

// plain is what Shares is to answer.
func (a asked) plain() ([]int, api.Errno) {
	if !sharesMayBy(a.workers, a.vars, a.atoms, a.sizes) {
		return nil, api.ErrArg
	}
	return lightestBy(grownShares(a.workers, a.vars), a.atoms, a.sizes), api.OK
}

// held holds Shares against the plain reading, and is what it answers.
func (a asked) held(t *testing.T) ([]int, api.Errno) {
	t.Helper()
	want, wantE := a.plain()
	l, e := a.shares()
	if !slices.Equal(l, want) || e != wantE {
		t.Fatalf("Shares(%d, %d, %v, %v): %v, %d, want %v, %d", a.workers, a.vars, a.atoms, a.sizes, l, e, want, wantE)
	}
	return l, e
}

// chanceShares is arguments of Shares that may be, of at most so many atoms.
func chanceShares(r *rand.Rand, workers, vars, most int) asked {
	a := asked{workers: workers, vars: vars}
	size := []int{2, 10, 70, 1000, 1 << 20}[r.Intn(5)]
	for range r.Intn(most + 1) {
		var atom []int
		for range r.Intn(4) {
			if vars > 0 {
				atom = append(atom, r.Intn(vars))
			}
		}
		a.atoms, a.sizes = append(a.atoms, atom), append(a.sizes, r.Intn(size+1))
	}
	return a
}

// Sh1: both ways to find all shares agree.
func TestPlainReadings(t *testing.T) {
	for vars, most := range []int{64, 64, 64, 24, 10, 6, 4} {
		for workers := 1; workers <= most; workers++ {
			counted, grown := countedShares(workers, vars), slices.Clone(grownShares(workers, vars))
			slices.SortFunc(counted, slices.Compare)
			slices.SortFunc(grown, slices.Compare)
			if !slices.EqualFunc(counted, grown, slices.Equal) {
				t.Fatalf("%d workers, %d variables: %v, %v", workers, vars, counted, grown)
			}
		}
	}
}

// Sh1: all small arguments: one or two atoms of each set of up to three variables.
func TestSmallShares(t *testing.T) {
	for vars := range 4 {
		var sets [][]int
		for bits := range 1 << vars {
			var set []int
			for v := range vars {
				if bits>>v&1 == 1 {
					set = append(set, v)
				}
			}
			sets = append(sets, set)
		}
		for workers := 1; workers <= 9; workers++ {
			all := countedShares(workers, vars)
			for _, one := range sets {
				for _, other := range sets {
					for _, sizes := range [][]int{{0, 1}, {2, 3}, {3, 3}, {7, 4}, {8, 12}, {9, 30}, {64, 64}} {
						atoms := [][]int{one, other}
						want := lightestBy(all, atoms, sizes)
						if l, e := share.Shares(workers, vars, atoms, sizes); !slices.Equal(l, want) || e != api.OK {
							t.Fatalf("Shares(%d, %d, %v, %v): %v, %d, want %v", workers, vars, atoms, sizes, l, e, want)
						}
					}
				}
			}
		}
	}
}

// Sh1: many arguments that look like chance and are the same in every run.
func TestChanceShares(t *testing.T) {
	r := rand.New(rand.NewSource(131))
	less, cut, alike := 0, 0, 0
	for range 4000 {
		a := chanceShares(r, 1+r.Intn(64), r.Intn(7), 12)
		l, _ := a.held(t)
		if n, e := share.Cells(l); n > a.workers || e != api.OK {
			t.Fatalf("%v: shares %v, %d cells, %d", a, l, n, e)
		} else if n < a.workers {
			less++
		}
		if slices.Max(append(l, 1)) > 1 {
			cut++
		}
		for _, other := range grownShares(a.workers, a.vars) {
			if loadBy(other, a.atoms, a.sizes) == loadBy(l, a.atoms, a.sizes) && !slices.Equal(l, other) {
				alike++
				break
			}
		}
	}
	if less < 500 || cut < 2000 || alike < 1000 || alike > 3900 {
		t.Errorf("%d without all workers, %d with parts, %d with others as good", less, cut, alike)
	}
}

// Sh1: arguments of which some may not be.
func TestChanceSharesArguments(t *testing.T) {
	r := rand.New(rand.NewSource(132))
	bad := 0
	for range 20000 {
		a := chanceShares(r, 1+r.Intn(8), r.Intn(4), 4)
		odd := outside[r.Intn(len(outside))]
		if r.Intn(3) > 0 {
			odd = []int{a.vars, 0, 6, 7, 64, 65, 1 << 20, 1<<20 + 1}[r.Intn(8)]
		}
		switch r.Intn(7) {
		case 0:
			a.workers = odd
		case 1:
			a.vars = odd
		case 2:
			a.atoms = append(a.atoms, []int{odd})
		case 3:
			a.atoms, a.sizes = append(a.atoms, []int{odd}), append(a.sizes, 5)
		case 4:
			a.atoms, a.sizes = append(a.atoms, nil), append(a.sizes, odd)
		case 5:
			a.sizes = append(a.sizes, 1)
		}
		if _, e := a.held(t); e == api.ErrArg {
			bad++
		}
	}
	if bad < 8000 || bad > 18000 {
		t.Errorf("%d of 20000 may not be", bad)
	}
}

// Sh1: in whatever order atoms stand, and their numbers, and however often these do.
func TestSharesTurned(t *testing.T) {
	r := rand.New(rand.NewSource(133))
	for range 2000 {
		a := chanceShares(r, 1+r.Intn(64), 1+r.Intn(4), 10)
		want, _ := a.shares()
		b := asked{workers: a.workers, vars: a.vars}
		for _, i := range r.Perm(len(a.atoms)) {
			atom := append(slices.Clone(a.atoms[i]), a.atoms[i]...)
			r.Shuffle(len(atom), func(i, k int) { atom[i], atom[k] = atom[k], atom[i] })
			b.atoms, b.sizes = append(b.atoms, atom), append(b.sizes, a.sizes[i])
		}
		// An atom of no number weighs the same whatever the shares, and one of no size nothing.
		b.atoms, b.sizes = append(b.atoms, nil, upTo(a.vars)), append(b.sizes, 77, 0)
		if l, e := b.shares(); !slices.Equal(l, want) || e != api.OK {
			t.Fatalf("%v: %v, turned %v, %d", a, want, l, e)
		}
	}
}

// Sh1: variables by other numbers have the same least load, and with one worker more it is no greater.
func TestSharesRenamed(t *testing.T) {
	r := rand.New(rand.NewSource(134))
	for range 2000 {
		a := chanceShares(r, 1+r.Intn(63), 1+r.Intn(5), 8)
		l, _ := a.shares()
		least := loadBy(l, a.atoms, a.sizes)
		number := r.Perm(a.vars)
		b := asked{workers: a.workers, vars: a.vars, sizes: a.sizes}
		for _, atom := range a.atoms {
			var other []int
			for _, v := range atom {
				other = append(other, number[v])
			}
			b.atoms = append(b.atoms, other)
		}
		if l, _ := b.shares(); loadBy(l, b.atoms, b.sizes) != least {
			t.Fatalf("%v: load %d, renamed %d", a, least, loadBy(l, b.atoms, b.sizes))
		}
		a.workers++
		if l, _ := a.shares(); loadBy(l, a.atoms, a.sizes) > least {
			t.Fatalf("%v: load %d, with one worker fewer %d", a, loadBy(l, a.atoms, a.sizes), least)
		}
	}
}

// chanceParts are shares that may be, of so many variables.
func chanceParts(r *rand.Rand, vars int) []int {
	shares, left := slices.Repeat([]int{1}, vars), 64
	for _, v := range r.Perm(vars) {
		shares[v] = 1 + r.Intn(min(left, 1+r.Intn(9)))
		left /= shares[v]
	}
	return shares
}

// chanceWord is one of many words.
func chanceWord(r *rand.Rand) string {
	return "w" + strconv.Itoa(r.Intn(5000))
}

// heldRoute holds Route against the plain reading, and is what it answers.
func heldRoute(t *testing.T, shares, vars []int, words []string) ([]int, api.Errno) {
	t.Helper()
	var want []int
	wantE := api.ErrArg
	if routeMayBy(shares, vars, words) {
		want, wantE = routeBy(shares, vars, words), api.OK
	}
	l, e := share.Route(shares, vars, words)
	if !slices.Equal(l, want) || e != wantE {
		t.Fatalf("Route(%v, %v, %q): %v, %d, want %v, %d", shares, vars, words, l, e, want, wantE)
	}
	return l, e
}

// Sh2: all shares of up to three variables with few cells, each list of up to three of them, words of each part.
func TestSmallRoutes(t *testing.T) {
	for vars := range 4 {
		for _, shares := range grownShares(12, vars) {
			var lists [][]int
			for n := range vars * vars * vars {
				l := []int{n % vars, n / vars % vars, n / vars / vars}
				lists = append(lists, l[:1], l[:2], l)
			}
			lists = append(lists, nil)
			for _, l := range lists {
				for turn := range 6 {
					var words []string
					for i := range l {
						words = append(words, "a"+strconv.Itoa(turn*(i+1)))
					}
					heldRoute(t, shares, l, words)
				}
			}
		}
	}
}

// Sh2: many arguments that look like chance.
func TestChanceRoutes(t *testing.T) {
	r := rand.New(rand.NewSource(135))
	none, one, some := 0, 0, 0
	for range 30000 {
		shares := chanceParts(r, r.Intn(17))
		var vars []int
		var words []string
		for range r.Intn(17) {
			if len(shares) == 0 {
				break
			}
			vars, words = append(vars, r.Intn(len(shares))), append(words, chanceWord(r))
		}
		if r.Intn(2) == 0 && len(vars) > 1 {
			vars, words = vars[:2], words[:2]
		}
		l, _ := heldRoute(t, shares, vars, words)
		if !slices.IsSorted(l) || len(slices.Compact(slices.Clone(l))) != len(l) {
			t.Fatalf("Route(%v, %v, %q): %v does not rise", shares, vars, words, l)
		}
		switch len(l) {
		case 0:
			none++
		case 1:
			one++
		default:
			some++
		}
	}
	if none < 3000 || one < 3000 || some < 3000 {
		t.Errorf("%d times no cell, %d times one, %d times more", none, one, some)
	}
}

// Sh2: arguments of which some may not be.
func TestChanceRouteArguments(t *testing.T) {
	r := rand.New(rand.NewSource(136))
	bad := 0
	for range 30000 {
		shares := chanceParts(r, 1+r.Intn(4))
		vars, words := []int{r.Intn(len(shares))}, []string{chanceWord(r)}
		odd := outside[r.Intn(len(outside))]
		if r.Intn(3) > 0 {
			odd = []int{len(shares), 0, 1, 2, 16, 17, 64, 65}[r.Intn(8)]
		}
		switch r.Intn(6) {
		case 0:
			shares = append(shares, odd)
		case 1:
			shares[r.Intn(len(shares))] = odd
		case 2:
			vars, words = append(vars, odd), append(words, chanceWord(r))
		case 3:
			vars, words = slices.Repeat(vars, 1+r.Intn(20)), slices.Repeat(words, 1+r.Intn(20))
		case 4:
			n := 12 + r.Intn(8)
			vars, words = slices.Repeat(vars, n), slices.Repeat(words, n)
		}
		_, e := heldRoute(t, shares, vars, words)
		if e == api.ErrArg {
			bad++
		}
		n, e := share.Cells(shares)
		if may := mayBeBy(shares); may != (e == api.OK) || may && int64(n) != product(shares).Int64() || !may && (n != 0 || e != api.ErrArg) {
			t.Fatalf("Cells(%v): %d, %d", shares, n, e)
		}
	}
	if bad < 9000 || bad > 27000 {
		t.Errorf("%d of 30000 may not be", bad)
	}
}

// Sh3: words that agree on all variables meet in one cell, by whatever of them each was sent.
func TestMeet(t *testing.T) {
	r := rand.New(rand.NewSource(137))
	for range 10000 {
		shares := chanceParts(r, 1+r.Intn(6))
		all, words := upTo(len(shares)), []string{}
		for range shares {
			words = append(words, chanceWord(r))
		}
		home, e := share.Route(shares, all, words)
		if len(home) != 1 || e != api.OK {
			t.Fatalf("Route(%v, %v, %q): %v, %d", shares, all, words, home, e)
		}
		// Lists of variables in which each one stands at least once: what they have in common is that cell.
		common, _ := share.Route(shares, nil, nil)
		order := r.Perm(len(shares))
		for len(order) > 0 {
			n := 1 + r.Intn(len(order))
			vars := append(slices.Clone(order[:n]), r.Intn(len(shares)))
			var some []string
			for _, v := range vars {
				some = append(some, words[v])
			}
			l, e := share.Route(shares, vars, some)
			if !slices.Contains(l, home[0]) || e != api.OK {
				t.Fatalf("Route(%v, %v, %q): %v, %d, without %v", shares, vars, some, l, e, home)
			}
			common = slices.DeleteFunc(common, func(cell int) bool { return !slices.Contains(l, cell) })
			order = order[n:]
		}
		if !slices.Equal(common, home) {
			t.Fatalf("%v, %q meet at %v, not at %v", shares, words, common, home)
		}
	}
}

// Sh3: a pair of words of two variables goes to as many cells as the other variables have parts.
func TestPairCells(t *testing.T) {
	r := rand.New(rand.NewSource(138))
	for vars := 2; vars <= 6; vars++ {
		for _, shares := range grownShares(64, vars) {
			pair := r.Perm(vars)[:2]
			want := 1
			for v, parts := range shares {
				if !slices.Contains(pair, v) {
					want *= parts
				}
			}
			words := []string{chanceWord(r), chanceWord(r)}
			if l, e := share.Route(shares, pair, words); len(l) != want || e != api.OK {
				t.Fatalf("Route(%v, %v, %q): %v, %d, want %d cells", shares, pair, words, l, e, want)
			}
		}
	}
}

// relation is pairs of words of two variables.
type relation struct {
	vars [2]int
	rows [][2]string
}

// choices are all lists of words, one a variable, of which each relation has the pair; sorted.
func choices(vars int, rels []relation) (all [][]string) {
	words := make([]string, vars)
	var choose func(at int)
	choose = func(at int) {
		if at == len(rels) {
			all = append(all, slices.Clone(words))
			return
		}
		a, b := rels[at].vars[0], rels[at].vars[1]
		oldA, oldB := words[a], words[b]
		for _, row := range rels[at].rows {
			if cmp.Or(oldA, row[0]) == row[0] && cmp.Or(oldB, row[1]) == row[1] {
				words[a], words[b] = row[0], row[1]
				choose(at + 1)
				words[a], words[b] = oldA, oldB
			}
		}
	}
	choose(0)
	slices.SortFunc(all, slices.Compare)
	return all
}

// Sh3: what cells find, each of what was sent to it, is what there is, and each of it in one cell.
func TestJoinedInCells(t *testing.T) {
	r := rand.New(rand.NewSource(139))
	found, apart := 0, 0
	for range 1500 {
		vars := 2 + r.Intn(3)
		a := asked{workers: 1 + r.Intn(64), vars: vars}
		var rels []relation
		for v := range vars {
			one := relation{vars: [2]int{v, (v + 1) % vars}}
			for range 6 + r.Intn(20) {
				one.rows = append(one.rows, [2]string{"a" + strconv.Itoa(r.Intn(7)), "a" + strconv.Itoa(r.Intn(7))})
			}
			slices.SortFunc(one.rows, func(a, b [2]string) int { return slices.Compare(a[:], b[:]) })
			one.rows = slices.Compact(one.rows)
			rels = append(rels, one)
			a.atoms, a.sizes = append(a.atoms, one.vars[:]), append(a.sizes, len(one.rows))
		}
		shares, _ := a.held(t)
		n, _ := share.Cells(shares)
		cells := make([][]relation, n)
		for i := range cells {
			for _, one := range rels {
				cells[i] = append(cells[i], relation{vars: one.vars})
			}
		}
		for i, one := range rels {
			for _, row := range one.rows {
				to, _ := share.Route(shares, one.vars[:], row[:])
				for _, cell := range to {
					cells[cell][i].rows = append(cells[cell][i].rows, row)
				}
			}
		}
		var all [][]string
		with := 0
		for _, cell := range cells {
			l := choices(vars, cell)
			all = append(all, l...)
			with += min(1, len(l))
		}
		slices.SortFunc(all, slices.Compare)
		want := choices(vars, rels)
		if !slices.EqualFunc(all, want, slices.Equal) {
			t.Fatalf("%v, shares %v: cells have %v, want %v", rels, shares, all, want)
		}
		if len(want) > 0 {
			found++
		}
		if with > 1 {
			apart++
		}
	}
	if found < 1000 || apart < 800 {
		t.Errorf("%d have choices, %d in several cells", found, apart)
	}
}

// signed are the numbers of bytes, some of them beyond all limits.
func signed(data []byte) (l []int) {
	for _, b := range data {
		switch {
		case b < 200:
			l = append(l, int(b))
		case b < 250:
			l = append(l, (int(b)-200)*30000)
		default:
			l = append(l, []int{-1, -2, math.MinInt, math.MaxInt, 1 << 20, 1<<20 + 1}[b-250])
		}
	}
	return l
}

// FuzzShares looks for atoms of which Shares answers otherwise than Sh1 says. A byte of 10 or more is a size, and ends an atom.
func FuzzShares(f *testing.F) {
	f.Add(byte(8), byte(3), []byte{0, 1, 100, 1, 2, 100, 2, 0, 100})
	f.Add(byte(64), byte(6), []byte{0, 1, 2, 204, 3, 3, 4, 5, 254, 11})
	f.Add(byte(0), byte(7), []byte{250, 253})
	f.Add(byte(65), byte(251), []byte{})
	f.Fuzz(func(t *testing.T, workers, vars byte, data []byte) {
		a := asked{workers: signed([]byte{workers})[0], vars: signed([]byte{vars})[0]}
		var atom []int
		for _, n := range signed(data) {
			if n < 10 && n >= 0 {
				atom = append(atom, n)
			} else {
				a.atoms, a.sizes, atom = append(a.atoms, atom), append(a.sizes, n-10), nil
			}
		}
		if len(atom) > 8 {
			a.atoms = append(a.atoms, atom)
		}
		a.held(t)
	})
}

// FuzzRoute looks for shares and words of which Cells, Part and Route answer otherwise than Sh2 says.
func FuzzRoute(f *testing.F) {
	f.Add([]byte{2, 3, 4}, []byte{0, 2}, "annbob", byte(3))
	f.Add([]byte{8, 8}, []byte{1, 1, 0}, "xyxyxy", byte(2))
	f.Add([]byte{64, 255}, []byte{16}, "", byte(0))
	f.Add([]byte{}, []byte{}, "\x00", byte(1))
	f.Fuzz(func(t *testing.T, shares, vars []byte, s string, size byte) {
		var words []string
		for len(words) < len(vars) && s != "" {
			n := min(len(s), int(size))
			words = append(words, s[:n])
			s = s[max(1, n):]
		}
		heldRoute(t, signed(shares), signed(vars), words)
		n, e := share.Cells(signed(shares))
		if may := mayBeBy(signed(shares)); may != (e == api.OK) || may && int64(n) != product(signed(shares)).Int64() || !may && n != 0 {
			t.Fatalf("Cells(%v): %d, %d", signed(shares), n, e)
		}
		for _, word := range words {
			for _, parts := range signed(shares) {
				if n := share.Part(word, parts); n != partBy(word, parts) {
					t.Fatalf("Part(%q, %d): %d", word, parts, n)
				}
			}
		}
	})
}
