package glue_test

import (
	"cmp"
	"math/rand"
	"slices"

	"testliner/api"
)

// plan returns a plan, cause a cause, look a look, to a span, room a room, rule a rule, and list a list.
func plan(steps int, nozzles ...int) api.GluePlan {
	return api.GluePlan{Steps: steps, Nozzles: nozzles}
}

func cause(nozzle int, kind api.GlueKind, from int) api.GlueCause {
	return api.GlueCause{Nozzle: nozzle, Kind: kind, From: from}
}

func look(box, nozzle, step int, glue bool) api.GlueLook {
	return api.GlueLook{Box: box, Nozzle: nozzle, Step: step, Glue: glue}
}

func to(low, high int) api.Span { return api.Span{Low: low, High: high} }

func room(warm, damp api.Span) api.GlueRoom { return api.GlueRoom{Warm: warm, Damp: damp} }

func rule(minutes, degree, damp int) api.GlueRule {
	return api.GlueRule{Minutes: minutes, Degree: degree, Damp: damp}
}

func list[E any](elements ...E) []E { return elements }

// chapterPlan is the plan of the chapter's examples, greatestPlan one with as much as there can be.
func chapterPlan() api.GluePlan { return plan(6, 14, 18) }

func greatestPlan() api.GluePlan { return plan(16, 65535, 0, 43690, 3, 49152, 28662) }

// kinds are all kinds of causes.
func kinds() []api.GlueKind {
	return list(api.GlueBlocked, api.GlueDrips, api.GlueLate, api.GlueEvery)
}

// some returns a number from low to high, pick one of some.
func some(r *rand.Rand, low, high int) int { return low + r.Intn(high-low+1) }

func pick[E any](r *rand.Rand, list ...E) E { return list[r.Intn(len(list))] }

// somePlan returns a plan with so many nozzles at most.
func somePlan(r *rand.Rand, most int) api.GluePlan {
	p := plan(pick(r, 1, 2, 3, 5, 16, some(r, 1, 16)))
	for range some(r, 1, most) {
		all := 1<<p.Steps - 1
		p.Nozzles = append(p.Nozzles, pick(r, 0, all, 1, 1<<(p.Steps-1), some(r, 0, all), some(r, 0, all), some(r, 0, all)))
	}
	return p
}

// someFroms returns so many boxes at most, ascending, at most so high.
func someFroms(r *rand.Rand, most, high int) []int {
	froms := list[int]()
	for range r.Intn(most + 1) {
		froms = append(froms, some(r, 0, high))
	}
	slices.Sort(froms)
	return slices.Compact(froms)
}

// someState returns a state of a plan, of which all Froms are at most so high.
func someState(r *rand.Rand, p api.GluePlan, high int) []api.GlueCause {
	var state []api.GlueCause
	for _, nozzle := range r.Perm(len(p.Nozzles))[:min(len(p.Nozzles), r.Intn(3))] {
		state = append(state, cause(nozzle, pick(r, kinds()...), some(r, 0, high)))
	}
	slices.SortFunc(state, func(a, b api.GlueCause) int { return cmp.Compare(a.Nozzle, b.Nozzle) })
	return state
}

// someLooks returns so many looks at places of some boxes, as a state gives them.
func someLooks(r *rand.Rand, p api.GluePlan, state []api.GlueCause, many, boxes int) []api.GlueLook {
	var looks []api.GlueLook
	for range many {
		x := look(r.Intn(boxes), r.Intn(len(p.Nozzles)), r.Intn(p.Steps), false)
		looks = append(looks, seen(p, state, x))
	}
	return looks
}

// seen returns the look at a place as a state gives it.
func seen(p api.GluePlan, state []api.GlueCause, at api.GlueLook) api.GlueLook {
	at.Glue = trueGlue(p, state, at.Box)[at.Nozzle][at.Step]
	return at
}

// trueGlue returns for each nozzle whether it gives glue to a box in each step, step by step as the chapter says.
func trueGlue(p api.GluePlan, state []api.GlueCause, box int) [][]bool {
	glue := make([][]bool, len(p.Nozzles))
	for nozzle, sum := range p.Nozzles {
		for range p.Steps {
			glue[nozzle] = append(glue[nozzle], sum%2 == 1)
			sum /= 2
		}
	}
	for _, c := range state {
		if box < c.From {
			continue
		}
		told := slices.Clone(glue[c.Nozzle])
		for step := range p.Steps {
			before := step > 0 && told[step-1]
			switch c.Kind {
			case api.GlueBlocked:
				glue[c.Nozzle][step] = false
			case api.GlueDrips:
				glue[c.Nozzle][step] = told[step] || before
			case api.GlueLate:
				glue[c.Nozzle][step] = told[step] && before
			case api.GlueEvery:
				glue[c.Nozzle][step] = told[step] && (box == 0 || box/2*2 == box)
			}
		}
	}
	return glue
}

// sums returns the sums of the steps in which nozzles give glue.
func sums(glue [][]bool) []int {
	var all []int
	for _, steps := range glue {
		sum, value := 0, 1
		for _, is := range steps {
			if is {
				sum += value
			}
			value *= 2
		}
		all = append(all, sum)
	}
	return all
}

// compareStates compares states: the shorter one is less, then the smaller list of Nozzle, Kind and From.
func compareStates(a, b []api.GlueCause) int {
	if len(a) != len(b) {
		return cmp.Compare(len(a), len(b))
	}
	return slices.CompareFunc(a, b, func(x, y api.GlueCause) int {
		return cmp.Or(cmp.Compare(x.Nozzle, y.Nozzle), cmp.Compare(x.Kind, y.Kind), cmp.Compare(x.From, y.From))
	})
}

// allStates returns the states considered, in their order.
func allStates(p api.GluePlan, froms []int) [][]api.GlueCause {
	var causes []api.GlueCause
	for _, kind := range kinds() {
		for _, from := range froms {
			for nozzle := range p.Nozzles {
				causes = append(causes, cause(nozzle, kind, from))
			}
		}
	}
	all := list[[]api.GlueCause](nil)
	for _, a := range causes {
		all = append(all, list(a))
		for _, b := range causes {
			if a.Nozzle < b.Nozzle {
				all = append(all, list(a, b))
			}
		}
	}
	slices.SortFunc(all, compareStates)
	return all
}

// explains reports whether a state explains looks.
func explains(p api.GluePlan, state []api.GlueCause, looks []api.GlueLook) bool {
	return !slices.ContainsFunc(looks, func(x api.GlueLook) bool { return seen(p, state, x) != x })
}

// explaining returns the states considered that explain looks, in their order.
func explaining(p api.GluePlan, froms []int, looks []api.GlueLook) [][]api.GlueCause {
	return slices.DeleteFunc(allStates(p, froms), func(state []api.GlueCause) bool { return !explains(p, state, looks) })
}

// allPlaces returns all places of so many boxes, by Box, then by Nozzle, then by Step.
func allPlaces(p api.GluePlan, boxes int) []api.GlueLook {
	var all []api.GlueLook
	for i := range boxes * len(p.Nozzles) * p.Steps {
		all = append(all, look(i/p.Steps/len(p.Nozzles), i/p.Steps%len(p.Nozzles), i%p.Steps, false))
	}
	return all
}

// wrongNozzles returns the nozzles with which something is wrong in all of some states.
func wrongNozzles(p api.GluePlan, states [][]api.GlueCause) []int {
	var wrong []int
	for nozzle := range p.Nozzles {
		fine := func(state []api.GlueCause) bool {
			return !slices.ContainsFunc(state, func(c api.GlueCause) bool { return c.Nozzle == nozzle })
		}
		if !slices.ContainsFunc(states, fine) {
			wrong = append(wrong, nozzle)
		}
	}
	return wrong
}

// sameLists reports whether lists of lists are equal, where a nil list and an empty one are.
func sameLists(a, b [][]int) bool {
	return slices.EqualFunc(a, b, func(x, y []int) bool { return slices.Equal(x, y) })
}
