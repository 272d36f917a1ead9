package share_test

import (
	"cmp"
	"hash/crc32"
	"math/big"
	"math/bits"
	"slices"
	"sync"
)

// What the chapter says, read plainly and by other means than the program's: what the tests hold it against.

// sharesMayBy tells whether the arguments of Shares may be.
func sharesMayBy(workers, vars int, atoms [][]int, sizes []int) bool {
	if !slices.Contains(upTo(65)[1:], workers) || !slices.Contains(upTo(7), vars) || len(atoms) != len(sizes) || len(atoms) > 12 {
		return false
	}
	for i, atom := range atoms {
		if sizes[i] < 0 || sizes[i] > 1048576 || slices.ContainsFunc(atom, func(v int) bool { return v < 0 || v > vars-1 }) {
			return false
		}
	}
	return true
}

// product is that of numbers, however great.
func product(l []int) *big.Int {
	n := big.NewInt(1)
	for _, factor := range l {
		n.Mul(n, big.NewInt(int64(factor)))
	}
	return n
}

// isAtMost tells whether the product of numbers is at most another one.
func isAtMost(l []int, most int) bool {
	return product(l).Cmp(big.NewInt(int64(most))) <= 0
}

// grown keeps what grownShares found, by workers and variables.
var grown sync.Map

// grownShares are all shares whose product is at most so many: all that comes of ones by one part more at a place, again and again.
func grownShares(workers, vars int) [][]int {
	if l, ok := grown.Load([2]int{workers, vars}); ok {
		return l.([][]int)
	}
	key := func(l []int) (k [6]int) {
		copy(k[:], l)
		return k
	}
	ones := slices.Repeat([]int{1}, vars)
	all, had := [][]int{ones}, map[[6]int]bool{key(ones): true}
	for at := 0; at < len(all); at++ {
		for v := range vars {
			more := slices.Clone(all[at])
			more[v]++
			if !had[key(more)] && isAtMost(more, workers) {
				had[key(more)] = true
				all = append(all, more)
			}
		}
	}
	grown.Store([2]int{workers, vars}, all)
	return all
}

// countedShares are the same, of all lists of the numbers 1 to workers, counted as one counts with digits.
func countedShares(workers, vars int) (all [][]int) {
	lists := 1
	for range vars {
		lists *= workers
	}
	for n := range lists {
		var l []int
		for range vars {
			l = append(l, 1+n%workers)
			n /= workers
		}
		if isAtMost(l, workers) {
			all = append(all, l)
		}
	}
	return all
}

// loadBy is the load of shares.
func loadBy(shares []int, atoms [][]int, sizes []int) (sum int) {
	for i, atom := range atoms {
		parts := 1
		for v, share := range shares {
			if slices.Contains(atom, v) {
				parts *= share
			}
		}
		sum += sizes[i] / parts
		if sizes[i]%parts > 0 {
			sum++
		}
	}
	return sum
}

// lightestBy is, of all shares, those that Sh1 asks for.
func lightestBy(all [][]int, atoms [][]int, sizes []int) []int {
	return slices.MinFunc(all, func(a, b []int) int {
		return cmp.Or(cmp.Compare(loadBy(a, atoms, sizes), loadBy(b, atoms, sizes)), slices.Compare(a, b))
	})
}

// mayBeBy tells whether shares may be.
func mayBeBy(shares []int) bool {
	if len(shares) > 16 {
		return false
	}
	for _, share := range shares {
		if share < 1 || share > 64 {
			return false
		}
	}
	return isAtMost(shares, 64)
}

// sumBy is layer 2's sum by the library, which goes through the bits of each byte the other way about.
func sumBy(s string) int {
	b := []byte(s)
	for i := range b {
		b[i] = bits.Reverse8(b[i])
	}
	return int(bits.Reverse32(crc32.ChecksumIEEE(b)))
}

// partBy is the part of a word.
func partBy(word string, parts int) int {
	if parts < 1 || parts > 64 {
		return 0
	}
	return sumBy(word+"#") % parts
}

// routeMayBy tells whether the arguments of Route may be.
func routeMayBy(shares, vars []int, words []string) bool {
	return mayBeBy(shares) && len(words) == len(vars) && len(vars) <= 16 && !slices.ContainsFunc(vars, func(v int) bool { return !slices.Contains(upTo(len(shares)), v) })
}

// partsBy are the parts that a cell is of: what its number leaves, from the last variable to the first.
func partsBy(shares []int, cell int) []int {
	parts := make([]int, len(shares))
	for v, share := range slices.Backward(shares) {
		parts[v] = cell % share
		cell /= share
	}
	return parts
}

// routeBy are the cells with the words of variables: each cell is looked at.
func routeBy(shares, vars []int, words []string) (cells []int) {
	for cell := range int(product(shares).Int64()) {
		parts := partsBy(shares, cell)
		is := true
		for i, v := range vars {
			is = is && parts[v] == partBy(words[i], shares[v])
		}
		if is {
			cells = append(cells, cell)
		}
	}
	return cells
}

// upTo are the numbers from 0 on, so many.
func upTo(n int) []int {
	l := make([]int, n)
	for i := range l {
		l[i] = i
	}
	return l
}
