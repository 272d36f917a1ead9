package flow_test

import (
	"testing"

	"sinew/api"
	"sinew/check"
	"sinew/query"
	"sinew/wire"
)

// byBytes is the order that bytes tell, and behind them that in which notes were sent.
func byBytes(turns []byte) order {
	return func(l []mail) int {
		if len(turns) == 0 {
			return 0
		}
		at := int(turns[0]) % len(l)
		turns = turns[1:]
		return at
	}
}

// FuzzTry: whatever facts, a query and turns of notes are, the reply is that of layer 11.
func FuzzTry(f *testing.F) {
	f.Add("a p b, b p c", "select ?x where { a p+ ?x }", byte(1), []byte{})
	for i, atoms := range asks {
		f.Add(family, "select ?x where { "+atoms+" }", byte(i), []byte{byte(i), 1, 2, 0, 3, 1, 0, 2})
	}
	f.Fuzz(func(t *testing.T, facts, asked string, workers byte, turns []byte) {
		l := factsOf(facts)
		r, _, e := query.Parse(asked)
		if e != api.OK || r.Kind != api.AskRows || len(l) > 40 {
			return
		}
		for _, x := range l {
			if query.Check(api.Request{Kind: api.AskBatch, Changes: []api.Change{{T: x}}}) != api.OK {
				return
			}
		}
		held(t, l, r.Query, 1+int(workers)%8, byBytes(turns))
	})
}

// sealed is a body with its length and its sum ahead.
func sealed(body string) string {
	var b []byte
	for _, n := range []int{len(body), check.Sum(body)} {
		b = append(b, byte(n>>24), byte(n>>16), byte(n>>8), byte(n))
	}
	return string(b) + body
}

// FuzzTake: whatever bytes a note is, no part panics; and a try of which nothing came goes on as if it had not come.
func FuzzTake(f *testing.F) {
	q := api.Query{Vars: []string{"x"}}
	for _, a := range [][3]string{{"ann", "p", "x"}, {"x", "q", "y"}} {
		q.Atoms = append(q.Atoms, api.Atom{S: api.Term{Var: a[0] != "ann", Name: a[0]}, Path: api.Path{Kind: api.PathStar, Kids: []api.Path{{Kind: api.PathWord, Word: a[1]}}}, O: api.Term{Var: true, Name: a[2]}})
	}
	stores, version := storesOf(f, factsOf(family), 2)
	w := begun(f, 1, version, q, stores, oldest)
	for i := 0; len(w.first) > 0; i++ {
		m := w.first[0]
		s, _ := wire.Pack(m.note)
		f.Add(i, m.to, m.from, s[8:])
		w.step()
	}
	f.Fuzz(func(t *testing.T, at, to, from int, body string) {
		n, _, e := wire.Unpack(sealed(body))
		// A telling that is right, but for its coming ahead of time, cannot be told from the one that is to come.
		if e != api.OK || n.Kind == 11 || to < 0 || to > 2 {
			return
		}
		w := begun(t, 1, version, q, stores, oldest)
		for len(w.first) > 0 {
			if len(w.told) == at && len(w.give(to, from, n)) > 0 {
				return
			}
			w.step()
		}
		if r, want := w.reply(), wanted(factsOf(family), q, version); !sameReply(r, want) {
			t.Errorf("%s of %d to %d: %v, want %v", brief(n), from, to, r, want)
		}
	})
}
