package know

import (
	"signetring/api"
	"signetring/codec"
)

// places is where names stand in a row.
type places map[string]int

func placesOf(names []string) places {
	p := make(places, len(names))
	for place, name := range names {
		p[name] = place
	}
	return p
}

// within: the places of all terms that texts name, be it inside of texts of texts, one for each time.
func (p places) within(texts ...string) []int {
	var found []int
	for _, text := range texts {
		if place, is := p[text]; is {
			found = append(found, place)
		} else if _, l, no := codec.Split(text); no == api.OK {
			// Each of them is shorter than the text: it ends.
			found = append(found, p.within(l...)...)
		}
	}
	return found
}
