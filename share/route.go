package share

import (
	"sinew/api"
	"sinew/check"
)

const (
	mostParts = 64
	mostVars  = 16
	// free is the part of a variable of which no word is given.
	free = -1
)

// Cells is how many cells there are.
func Cells(shares []int) (int, api.Errno) {
	if len(shares) > mostVars {
		return 0, api.ErrArg
	}
	cells := 1
	for _, parts := range shares {
		// Held against what is left, so that no product grows beyond an int.
		if parts < 1 || parts > mostParts/cells {
			return 0, api.ErrArg
		}
		cells *= parts
	}
	return cells, api.OK
}

// Part is the part of a word, of so many.
func Part(word string, parts int) int {
	if parts < 1 || parts > mostParts {
		return 0
	}
	// Without the mark, words of one home would all be of one part where there are as many parts as workers.
	return check.Sum(word+"#") % parts
}

// Route are the cells that have words of some variables, rising.
func Route(shares []int, vars []int, words []string) ([]int, api.Errno) {
	if _, e := Cells(shares); e != api.OK {
		return nil, e
	}
	if len(words) != len(vars) || len(vars) > mostVars {
		return nil, api.ErrArg
	}
	for _, v := range vars {
		if v < 0 || v >= len(shares) {
			return nil, api.ErrArg
		}
	}
	bound, agree := partsOf(shares, vars, words)
	if !agree {
		return nil, api.OK
	}
	return cellsWith(shares, bound), api.OK
}

// partsOf has for each variable the part of its word, or free; false, if one has words of unlike parts.
func partsOf(shares []int, vars []int, words []string) ([]int, bool) {
	bound := make([]int, len(shares))
	for v := range bound {
		bound[v] = free
	}
	for i, v := range vars {
		part := Part(words[i], shares[v])
		if bound[v] != free && bound[v] != part {
			return nil, false
		}
		bound[v] = part
	}
	return bound, true
}

// cellsWith are the cells of those parts. They are put together variable by variable, by which they come rising: a part further ahead weighs more than all behind it.
func cellsWith(shares, bound []int) []int {
	cells := []int{0}
	for v, parts := range shares {
		var next []int
		for _, ahead := range cells {
			for part := range parts {
				if bound[v] == free || bound[v] == part {
					next = append(next, ahead*parts+part)
				}
			}
		}
		cells = next
	}
	return cells
}
