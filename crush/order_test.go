package crush_test

import (
	"math/rand"
	"slices"
	"testing"

	"testliner/api"
	"testliner/crush"
)

// firstOrder tries all orders of some boxes, the smallest one first.
func firstOrder(boxes []api.CrushLoad, numbers []int, keep []api.CrushStep, days int) ([]int, bool) {
	for _, order := range orders(numbers) {
		if stands(boxes, order, keep, days) {
			return order, true
		}
	}
	return nil, false
}

// mostBoxes tries all sets of boxes.
func mostBoxes(boxes []api.CrushLoad, keep []api.CrushStep, days int) []int {
	var best []int
	for set := range 1 << len(boxes) {
		list := chosen(set)
		if len(list) < len(best) || len(list) == len(best) && slices.Compare(list, best) >= 0 {
			continue
		}
		if _, found := firstOrder(boxes, list, keep, days); found {
			best = list
		}
	}
	return best
}

// P3.9: the chapter's examples, and the edges.
func TestOrder(t *testing.T) {
	ten := chosen(1<<10 - 1)
	rising := make([]api.CrushLoad, 10)
	for i := range rising {
		rising[i] = sure(i, 1)
	}
	falling := slices.Clone(rising)
	slices.Reverse(falling)
	for i, c := range []struct {
		boxes       []api.CrushLoad
		keep        []api.CrushStep
		days        int
		order, most []int
		e           api.Errno
	}{
		{[]api.CrushLoad{sure(100, 50), sure(200, 100), sure(40, 60)}, flat(), 0, n(1, 0, 2), n(0, 1, 2), api.OK},
		{[]api.CrushLoad{sure(100, 50), sure(40, 60), sure(50, 60)}, flat(), 0, nil, n(0, 1), api.ErrState},
		{nil, flat(), 0, nil, nil, api.OK},
		{[]api.CrushLoad{}, flat(), 10000, nil, nil, api.OK},
		{[]api.CrushLoad{sure(0, 100000)}, []api.CrushStep{{}}, 10000, n(0), n(0), api.OK},
		{[]api.CrushLoad{sure(0, 1), sure(0, 1)}, flat(), 0, nil, n(0), api.ErrState},
		{[]api.CrushLoad{sure(0, 1), sure(0, 0)}, flat(), 0, n(0, 1), n(0, 1), api.OK},
		{[]api.CrushLoad{sure(0, 0), sure(0, 1)}, flat(), 0, n(1, 0), n(0, 1), api.OK},
		// The smallest order, though another one has more to spare.
		{[]api.CrushLoad{sure(4, 5), sure(500, 5), sure(500, 5)}, flat(), 0, n(1, 2, 0), n(0, 1, 2), api.OK},
		{[]api.CrushLoad{sure(5, 5), sure(500, 5), sure(500, 5)}, flat(), 0, n(1, 0, 2), n(0, 1, 2), api.OK},
		{[]api.CrushLoad{sure(10, 5), sure(500, 5), sure(500, 5)}, flat(), 0, n(0, 1, 2), n(0, 1, 2), api.OK},
		// A lowest box that bears the others is none if these do not stand.
		{[]api.CrushLoad{sure(99, 9), sure(11, 2), sure(0, 1)}, flat(), 0, n(0, 1, 2), n(0, 1, 2), api.OK},
		{[]api.CrushLoad{sure(99, 1), sure(5, 9), sure(0, 4)}, flat(), 0, n(0, 1, 2), n(0, 1, 2), api.OK},
		{[]api.CrushLoad{sure(13, 1), sure(8, 9), sure(9, 4)}, flat(), 0, n(0, 1, 2), n(0, 1, 2), api.OK},
		{[]api.CrushLoad{sure(13, 9), sure(8, 1), sure(9, 9)}, flat(), 0, n(0, 2, 1), n(0, 1, 2), api.OK},
		// The least strengths and the greatest weights count.
		{[]api.CrushLoad{box(5, 6, 5, 5), box(5, 6, 6, 6)}, flat(), 0, n(1, 0), n(0, 1), api.OK},
		{[]api.CrushLoad{box(5, 6, 5, 6), box(5, 6, 5, 6)}, flat(), 0, nil, n(0), api.ErrState},
		// The last day counts: 10 keep 8, then 6.
		{[]api.CrushLoad{sure(10, 8), sure(10, 9)}, chapterTable(), 29, n(1, 0), n(0, 1), api.OK},
		{[]api.CrushLoad{sure(10, 8), sure(10, 9)}, chapterTable(), 9, n(0, 1), n(0, 1), api.OK},
		{[]api.CrushLoad{sure(10, 8), sure(10, 9)}, chapterTable(), 30, nil, n(0), api.ErrState},
		{[]api.CrushLoad{sure(10, 7), sure(10, 9), sure(10, 6)}, chapterTable(), 30, nil, n(0, 2), api.ErrState},
		{[]api.CrushLoad{sure(0, 9), sure(0, 9), sure(9, 1), sure(9, 1)}, flat(), 0, nil, n(0, 2), api.ErrState},
		{[]api.CrushLoad{sure(0, 9), sure(0, 9), sure(10, 1), sure(9, 1)}, flat(), 0, nil, n(0, 2, 3), api.ErrState},
		{rising, flat(), 0, n(9, 8, 7, 6, 5, 4, 3, 2, 1, 0), ten, api.OK},
		{falling, flat(), 0, ten, ten, api.OK},
		{slices.Repeat([]api.CrushLoad{sure(9, 1)}, 10), flat(), 0, ten, ten, api.OK},
		{slices.Repeat([]api.CrushLoad{sure(8, 1)}, 10), flat(), 0, nil, ten[:9], api.ErrState},
		{slices.Repeat([]api.CrushLoad{sure(0, 1)}, 10), flat(), 0, nil, n(0), api.ErrState},
	} {
		order, e := crush.Order(c.boxes, c.keep, c.days)
		most, f := crush.Most(c.boxes, c.keep, c.days)
		if !slices.Equal(order, c.order) || e != c.e || !slices.Equal(most, c.most) || f != api.OK {
			t.Error(i, order, e, most, f)
		}
	}
}

// P3.9, P3.14: against all orders of all sets of few boxes.
func TestOrderTries(t *testing.T) {
	r := rand.New(rand.NewSource(9))
	sizes, without := map[int]int{}, 0
	for range 400 {
		boxes, keep, days := someStack(r, 5), someTable(r), r.Intn(16)
		want, found := firstOrder(boxes, chosen(1<<len(boxes)-1), keep, days)
		order, e := crush.Order(boxes, keep, days)
		if !slices.Equal(order, want) || (e == api.OK) != found || e != api.OK && e != api.ErrState {
			t.Fatal(boxes, keep, days, order, e, want)
		}
		most, e := crush.Most(boxes, keep, days)
		if !slices.Equal(most, mostBoxes(boxes, keep, days)) || e != api.OK || (len(most) == len(boxes)) != found {
			t.Fatal(boxes, keep, days, most, e)
		}
		sizes[len(most)]++
		if !found {
			without++
		}
	}
	if len(sizes) < 6 || without < 50 {
		t.Error(sizes, without)
	}
}

// P3.14: with as many boxes as there may be an order stands; what Most returns has one; stronger or lighter boxes, or fewer days, leave no more out.
func TestOrderOfMany(t *testing.T) {
	r := rand.New(rand.NewSource(10))
	for range 300 {
		boxes := make([]api.CrushLoad, api.MaxCrushOrder)
		for i := range boxes {
			boxes[i] = api.CrushLoad{Strength: someSpan(r, 0, 90, 5), Weight: someSpan(r, 0, 15, 2)}
		}
		keep, days := someTable(r), r.Intn(16)
		most, e := crush.Most(boxes, keep, days)
		if e != api.OK || len(most) == 0 || !slices.IsSorted(most) {
			t.Fatal(boxes, keep, days, most, e)
		}
		var some []api.CrushLoad
		for _, i := range most {
			some = append(some, boxes[i])
		}
		order, e := crush.Order(some, keep, days)
		if e != api.OK || len(order) != len(some) || !stands(some, order, keep, days) {
			t.Fatal(boxes, keep, days, most, order, e)
		}
		if _, e := crush.Order(boxes, keep, days); (e == api.OK) != (len(most) == len(boxes)) {
			t.Fatal(boxes, keep, days, most, e)
		}
		better := slices.Clone(boxes)
		for i := range better {
			better[i].Strength.Low += r.Intn(9)
			better[i].Strength.High += 9
			better[i].Weight.Low /= 2
			better[i].Weight.High -= r.Intn(better[i].Weight.High - better[i].Weight.Low + 1)
		}
		more, _ := crush.Most(better, keep, days)
		sooner, _ := crush.Most(boxes, keep, r.Intn(days+1))
		if len(more) < len(most) || len(sooner) < len(most) {
			t.Fatal(boxes, keep, days, most, more, sooner)
		}
	}
}
