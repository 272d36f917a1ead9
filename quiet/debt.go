package quiet

const mostOwed = 1 << 30

// debt is how many messages a node sent and was not told of.
type debt struct {
	count int
}

// owed is how many they are.
func (d *debt) owed() int {
	return d.count
}

// more lets so many more be owed; false, if that would be too many.
func (d *debt) more(many int) bool {
	if many > mostOwed-d.count {
		return false
	}
	d.count += many
	return true
}

// less lets one less be owed; false, if there is none.
func (d *debt) less() bool {
	if d.count == 0 {
		return false
	}
	d.count--
	return true
}
