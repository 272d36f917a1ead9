package flow

import (
	"sinew/check"
	"sinew/words"
)

// lexicon gives words numbers, and knows with whom they live.
type lexicon struct {
	workers int
	dict    *words.Dict
	// homes are, of each word's number, the worker with which it lives.
	homes []int
}

// newLexicon is one without words.
func newLexicon(workers int) *lexicon {
	return &lexicon{workers: workers, dict: words.New()}
}

// number is a word's number; a word that is not there gets the next one.
func (x *lexicon) number(word string) int {
	n, _ := x.dict.Put(word)
	if n == len(x.homes) {
		x.homes = append(x.homes, x.home(word))
	}
	return n
}

// word is the word of a number.
func (x *lexicon) word(number int) string {
	s, _ := x.dict.Word(number)
	return s
}

// home is the worker with which a word lives.
func (x *lexicon) home(word string) int {
	home, _ := check.Home(word, x.workers)
	return home + 1
}
