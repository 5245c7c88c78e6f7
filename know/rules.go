package know

import "signetring/term"

// rule: who knows all that it needs knows all that it gives.
type rule struct {
	needs int // so many of them are not known yet
	gives []int
}

// rules is what follows from what, and what is known by it. Terms may name each other in a ring and in whatever order, so each rule waits for its terms: none is asked again and again.
type rules struct {
	all     []rule
	waiting [][]int // by a term's place: the rules that need it, each one as often as it does
	known   []bool
	fresh   []int // known, but the rules that need them do not know it yet
}

// rulesOf: the rules of a table's terms, of these names at these places.
func rulesOf(t *term.Table, names []string, p places) *rules {
	r := &rules{waiting: make([][]int, len(names)), known: make([]bool, len(names))}
	pubs := pubsOf(t, names)
	for place, name := range names {
		kind, parts, _ := t.Parts(name)
		switch kind {
		case term.Pub, term.Hash:
			r.add(p.within(parts...), place)
		case term.Dh:
			r.addDh(parts[0], parts[1], place, p, pubs)
		case term.Sealed:
			r.addSealed(parts[0], parts[2], parts[3], place, p)
		}
	}
	return r
}

// pubsOf: the places of public keys, by their secrets.
func pubsOf(t *term.Table, names []string) map[string]int {
	pubs := map[string]int{}
	for place, name := range names {
		if kind, parts, _ := t.Parts(name); kind == term.Pub {
			pubs[parts[0]] = place
		}
	}
	return pubs
}

// add: who knows the terms that are needed knows these.
func (r *rules) add(needs []int, gives ...int) {
	if len(needs) == 0 {
		r.learn(gives...)
		return
	}
	for _, place := range needs {
		r.waiting[place] = append(r.waiting[place], len(r.all))
	}
	r.all = append(r.all, rule{len(needs), gives})
}

// addDh: of two secrets one is needed, and the other one or its public key.
func (r *rules) addDh(x, y string, place int, p places, pubs map[string]int) {
	// Both secrets are enough, whichever public keys the table has.
	r.add(p.within(x, y), place)
	if pub, has := pubs[y]; has {
		r.add(append(p.within(x), pub), place)
	}
	if pub, has := pubs[x]; has {
		r.add(append(p.within(y), pub), place)
	}
}

// addSealed: a box is made of its key, its ad and its text; and opened by its key.
func (r *rules) addSealed(key, ad, text string, place int, p places) {
	r.add(p.within(key, ad, text), place)
	r.add(append(p.within(key), place), p.within(text)...)
}

// learn: these are known from now on.
func (r *rules) learn(places ...int) {
	for _, place := range places {
		if !r.known[place] {
			r.known[place] = true
			r.fresh = append(r.fresh, place)
		}
	}
}

// follow: what is known by the rules, till nothing is fresh.
func (r *rules) follow() {
	for len(r.fresh) > 0 {
		last := len(r.fresh) - 1
		place := r.fresh[last]
		r.fresh = r.fresh[:last]
		for _, n := range r.waiting[place] {
			r.all[n].needs--
			if r.all[n].needs == 0 {
				r.learn(r.all[n].gives...)
			}
		}
	}
}
