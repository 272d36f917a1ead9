package flow

import (
	"math/bits"
	"slices"

	"sinew/api"
)

// places is some of an automaton's places, a bit for each.
type places int

// beginning stands for the place ahead of all words.
const beginning = api.MaxPlaces

// only is one place.
func only(place int) places {
	return 1 << place
}

// placesOf are the places of a list.
func placesOf(l []int) places {
	var all places
	for _, place := range l {
		all |= only(place)
	}
	return all
}

// automaton is one that is gone along from many places at once.
type automaton struct {
	words []string
	// behind are, of each place, those that may come right behind it.
	behind [beginning + 1]places
	last   places
}

// newAutomaton is an automaton that may be.
func newAutomaton(a api.Auto) *automaton {
	m := &automaton{words: a.Words, last: placesOf(a.Last)}
	for place, l := range a.Follow {
		m.behind[place] = placesOf(l)
	}
	m.behind[beginning] = placesOf(a.First)
	if a.Empty {
		m.last |= only(beginning)
	}
	return m
}

// empty tells whether nothing at all will do.
func (m *automaton) empty() bool {
	return m.ends(only(beginning))
}

// ends tells whether one of some places is a last one.
func (m *automaton) ends(at places) bool {
	return m.last&at != 0
}

// next are the places that may come right behind some.
func (m *automaton) next(at places) places {
	var all places
	for rest := uint(at); rest != 0; rest &= rest - 1 {
		all |= m.behind[bits.TrailingZeros(rest)]
	}
	return all
}

// leadsTo tells whether places are some to which words lead.
func (m *automaton) leadsTo(at places) bool {
	return 0 < at && at < only(len(m.words))
}

// turned is the path whose words stand the other way round: it leads against the facts just as the path leads with them.
func turned(p api.Path) api.Path {
	back := api.Path{Kind: p.Kind, Word: p.Word}
	for _, kid := range p.Kids {
		back.Kids = append(back.Kids, turned(kid))
	}
	if p.Kind == api.PathSeq {
		slices.Reverse(back.Kids)
	}
	return back
}
