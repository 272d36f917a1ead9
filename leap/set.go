package leap

import "math/bits"

// set is some variables, a bit for each.
type set uint16

// only is one variable.
func only(x int) set {
	return 1 << x
}

// first are the first so many variables.
func first(vars int) set {
	return ^set(0) >> (mostVars - vars)
}

// has tells whether a variable is in a set.
func (s set) has(x int) bool {
	return s&only(x) != 0
}

// count is how many variables a set has.
func (s set) count() int {
	return bits.OnesCount16(uint16(s))
}

// list are a set's variables, rising.
func (s set) list() []int {
	var l []int
	for x := range mostVars {
		if s.has(x) {
			l = append(l, x)
		}
	}
	return l
}
