package glue

import (
	"slices"

	"testliner/api"
)

// causes returns the causes considered, ascending.
func (l line) causes(froms ...int) []api.GlueCause {
	var causes []api.GlueCause
	for nozzle := range l.Nozzles {
		for kind := api.GlueBlocked; kind <= api.GlueEvery; kind++ {
			for _, from := range froms {
				causes = append(causes, api.GlueCause{Nozzle: nozzle, Kind: kind, From: from})
			}
		}
	}
	return causes
}

// states returns the states considered, ascending, each in memory of its own.
func (l line) states(froms ...int) [][]api.GlueCause {
	causes := l.causes(froms...)
	longest := [][]api.GlueCause{nil}
	all := longest
	for range api.MaxGlueCauses {
		longest = longer(causes, longest...)
		all = append(all, longest...)
	}
	return all
}

// longer returns all states with one cause more, of a nozzle behind those of a state.
func longer(causes []api.GlueCause, states ...[]api.GlueCause) [][]api.GlueCause {
	var all [][]api.GlueCause
	for _, state := range states {
		for _, c := range causes {
			if len(state) == 0 || c.Nozzle > state[len(state)-1].Nozzle {
				all = append(all, append(slices.Clone(state), c))
			}
		}
	}
	return all
}

// explaining returns those of some states that explain looks.
func (l line) explaining(looks []api.GlueLook, states ...[]api.GlueCause) [][]api.GlueCause {
	var left [][]api.GlueCause
	for _, state := range states {
		otherwise := func(x api.GlueLook) bool { return l.shows(x, causeOf(x.Nozzle, state)) != x.Glue }
		if !slices.ContainsFunc(looks, otherwise) {
			left = append(left, state)
		}
	}
	return left
}

// nozzles returns the nozzles with which something is wrong in a state.
func nozzles(state []api.GlueCause) []int {
	var wrong []int
	for _, c := range state {
		wrong = append(wrong, c.Nozzle)
	}
	return wrong
}

// next returns the first place of so many boxes where the fewest states can be left, and how many; it is the number of all of them if they are alike at each place.
func (l line) next(boxes int, states ...[]api.GlueCause) (at api.GlueLook, most int) {
	said := l.said(states...)
	most = len(states)
	for place := range l.places(boxes) {
		glue := 0
		for c, many := range said[place.Nozzle] {
			if l.shows(place, c) {
				glue += many
			}
		}
		if greater := max(glue, len(states)-glue); greater < most {
			at, most = place, greater
		}
	}
	return at, most
}

// said returns for each nozzle what some states say of it, and how many of them do. Places of the nozzle show no more of a state than that, and many states say the same.
func (l line) said(states ...[]api.GlueCause) []map[api.GlueCause]int {
	var said []map[api.GlueCause]int
	for nozzle := range l.Nozzles {
		many := map[api.GlueCause]int{}
		for _, state := range states {
			many[causeOf(nozzle, state)]++
		}
		said = append(said, many)
	}
	return said
}
