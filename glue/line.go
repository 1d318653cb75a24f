package glue

import (
	"iter"
	"slices"

	"testliner/api"
)

// line is a plan by which boxes are glued.
type line struct{ api.GluePlan }

// causeOf returns what a state says of a nozzle: its cause, or one of no kind if the nozzle is fine.
func causeOf(nozzle int, state []api.GlueCause) api.GlueCause {
	for _, c := range state {
		if c.Nozzle == nozzle {
			return c
		}
	}
	return api.GlueCause{Nozzle: nozzle}
}

// gives returns the glue of a box from the nozzle of a cause.
func (l line) gives(c api.GlueCause, box int) int {
	told := l.Nozzles[c.Nozzle]
	if box < c.From {
		return told
	}
	switch c.Kind {
	case api.GlueBlocked:
		return 0
	case api.GlueDrips:
		return (told | told<<1) & (1<<l.Steps - 1)
	case api.GlueLate:
		// The steps that follow one in which the nozzle is told to be open are those that do not begin a run.
		return told & (told << 1)
	case api.GlueEvery:
		if box%2 == 1 {
			return 0
		}
	}
	return told
}

// box returns the glue of a box by a state.
func (l line) box(number int, state []api.GlueCause) []int {
	var glue []int
	for nozzle := range l.Nozzles {
		glue = append(glue, l.gives(causeOf(nozzle, state), number))
	}
	return glue
}

// shows reports whether there is glue at a place if a cause is that of its nozzle.
func (l line) shows(at api.GlueLook, c api.GlueCause) bool {
	return l.gives(c, at.Box)>>at.Step&1 == 1
}

// places yields all places of so many boxes, by box, then by nozzle, then by step.
func (l line) places(boxes int) iter.Seq[api.GlueLook] {
	return func(yield func(api.GlueLook) bool) {
		for box := range boxes {
			for nozzle := range l.Nozzles {
				for step := range l.Steps {
					if !yield(api.GlueLook{Box: box, Nozzle: nozzle, Step: step}) {
						return
					}
				}
			}
		}
	}
}

// apart returns the first place of so many boxes at which two states differ, with what the first of them has there.
func (l line) apart(boxes int, a, b []api.GlueCause) (at api.GlueLook, found bool) {
	for place := range l.places(boxes) {
		place.Glue = l.shows(place, causeOf(place.Nozzle, a))
		if place.Glue != l.shows(place, causeOf(place.Nozzle, b)) {
			return place, true
		}
	}
	return api.GlueLook{}, false
}

// groups returns the numbers of states in groups of those that are alike in so many boxes.
func (l line) groups(boxes int, states ...[]api.GlueCause) [][]int {
	var groups [][]int
	for number, state := range states {
		i := slices.IndexFunc(groups, func(group []int) bool {
			_, found := l.apart(boxes, states[group[0]], state)
			return !found
		})
		if i < 0 {
			groups = append(groups, []int{number})
		} else {
			groups[i] = append(groups[i], number)
		}
	}
	return groups
}
