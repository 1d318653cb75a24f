package roll_test

import (
	"math/big"
	"math/rand"
	"slices"
	"testing"

	"testliner/api"
	"testliner/roll"
)

// P7.10: the chapter's example, and the edges.
func TestLabelsExamples(t *testing.T) {
	three := stand(1, 1, 5, to(15, 25), to(15, 25), to(15, 25))
	for i, c := range []struct {
		s      api.RollStand
		seen   []api.RollSeen
		labels []api.Span
		e      api.Errno
	}{
		{chapterStand(), list(at(0, 2010, 2012)), list(to(3115, 3119), to(6100, 6100)), api.OK},
		{chapterStand(), nil, list(to(3100, 3160), to(6100, 6100)), api.OK},
		{chapterStand(), list(at(0, 0, 70000000)), list(to(3100, 3160), to(6100, 6100)), api.OK},
		{chapterStand(), list(at(0, 0, 2000)), list(to(3100, 3101), to(6100, 6100)), api.OK},
		{chapterStand(), list(at(0, 0, 1999)), nil, api.ErrState},
		{chapterStand(), list(at(0, 2040, 9999)), list(to(3160, 3160), to(6100, 6100)), api.OK},
		{chapterStand(), list(at(0, 2041, 9999)), nil, api.ErrState},
		// A place rounded down: 3116 and 3117 lie at 2010.6.. and 2011.3.., but only 3118 and 3119 at 2012.
		{chapterStand(), list(at(0, 2011, 2011)), list(to(3117, 3117), to(6100, 6100)), api.OK},
		{chapterStand(), list(at(0, 2012, 2012)), list(to(3118, 3119), to(6100, 6100)), api.OK},
		// The end of the paper says as much of the first roll, as the second one is known.
		{chapterStand(), list(at(1, 6010, 6012)), list(to(3115, 3119), to(6100, 6100)), api.OK},
		{chapterStand(), list(at(1, 6039, 6039)), list(to(3159, 3159), to(6100, 6100)), api.OK},
		{chapterStand(), list(at(1, 6041, 6041)), nil, api.ErrState},
		{chapterStand(), list(at(0, 2010, 2012), at(1, 6000, 6011)), list(to(3115, 3117), to(6100, 6100)), api.OK},
		{chapterStand(), list(at(1, 6000, 6011), at(0, 2010, 2012)), list(to(3115, 3117), to(6100, 6100)), api.OK},
		{chapterStand(), list(at(0, 2010, 2012), at(1, 6020, 6030)), nil, api.ErrState},
		// Later splices say something of earlier rolls, and earlier ones of later rolls.
		{three, list(at(2, 30, 30)), slices.Repeat(list(to(15, 15)), 3), api.OK},
		{three, list(at(2, 60, 99)), slices.Repeat(list(to(25, 25)), 3), api.OK},
		{three, list(at(2, 32, 33)), slices.Repeat(list(to(15, 18)), 3), api.OK},
		{three, list(at(1, 38, 39)), list(to(23, 25), to(23, 25), to(15, 25)), api.OK},
		{three, list(at(0, 12, 13)), list(to(17, 18), to(15, 25), to(15, 25)), api.OK},
		{three, list(at(0, 12, 13), at(2, 50, 52)), list(to(17, 18), to(22, 25), to(22, 25)), api.OK},
		{three, list(at(0, 12, 13), at(1, 30, 30)), list(to(17, 18), to(22, 23), to(15, 25)), api.OK},
		{three, list(at(1, 30, 31), at(2, 41, 42)), list(to(15, 25), to(15, 25), to(15, 17)), api.OK},
		{three, list(at(1, 30, 30), at(2, 51, 60)), nil, api.ErrState},
		// One splice that was seen often.
		{three, list(at(0, 12, 13), at(0, 14, 15)), nil, api.ErrState},
		{three, list(at(0, 12, 14), at(0, 14, 15)), list(to(19, 19), to(15, 25), to(15, 25)), api.OK},
		{three, slices.Repeat(list(at(0, 12, 14)), 12), list(to(17, 19), to(15, 25), to(15, 25)), api.OK},
		{stand(1, 1, 0), nil, nil, api.OK},
		{stand(20000, 10000, 9999, to(10000, 10002)), list(at(0, 0, 0)), list(to(10000, 10000)), api.OK},
		{stand(20000, 10000, 9999, to(10000, 10002)), list(at(0, 1, 1)), list(to(10001, 10002)), api.OK},
		{greatestStand(), list(at(5, 30000000, 70000000)), slices.Repeat(list(to(10000000, 10000000)), 6), api.OK},
		{greatestStand(), list(at(5, 70000000, 70000000)), nil, api.ErrState},
	} {
		if labels, e := roll.Labels(c.s, c.seen); !slices.Equal(labels, c.labels) || e != c.e {
			t.Error(i, labels, e)
		}
	}
}

// someSeen returns places of splices that are there, around those of a truth, but now and then wrong.
func someSeen(r *rand.Rand, s api.RollStand, most, wide int) []api.RollSeen {
	var seen []api.RollSeen
	places := truePlaces(s, someTruth(r, s))
	for range r.Intn(most + 1) {
		if len(places) == 0 {
			break
		}
		i := r.Intn(len(places))
		place := down(places[i]) + pick(r, 0, 0, 0, 0, some(r, -wide, wide))
		low := max(0, place-r.Intn(wide+1))
		seen = append(seen, at(i, low, max(low, place+r.Intn(wide+1))))
	}
	return seen
}

// P7.10, P7.14: against all truths.
func TestLabels(t *testing.T) {
	r := rand.New(rand.NewSource(12))
	states := map[bool]int{}
	for range 3000 {
		s := someStand(r, 4)
		seen := someSeen(r, s, pick(r, 2, 12), pick(r, 0, 1, 4))
		want := trueLabels(s, seen)
		labels, e := roll.Labels(s, seen)
		if !slices.Equal(labels, want) || (e == api.OK) != (want != nil) || e != api.OK && e != api.ErrState {
			t.Fatal(s, seen, labels, e, want)
		}
		states[e == api.OK]++
	}
	if states[true] < 500 || states[false] < 200 {
		t.Error(states)
	}
}

// shortest returns the most that what is used up at each splice can be above that at each other one (0 is the beginning), by all ways from one to the other.
func shortest(s api.RollStand, seen []api.RollSeen) [][]int {
	many := len(s.Rolls) + 1
	most := make([][]int, many)
	for a := range many {
		most[a] = slices.Repeat(list(1<<50), many)
		most[a][a] = 0
	}
	tie := func(a, b, low, high int) {
		most[a][b] = min(most[a][b], high)
		most[b][a] = min(most[b][a], -low)
	}
	for i, roll := range s.Rolls {
		tie(i, i+1, roll.Low-s.Tail, roll.High-s.Tail)
	}
	for _, x := range seen {
		low := over(new(big.Rat).Mul(rat(x.Place.Low), up(s)))
		high := over(new(big.Rat).Mul(rat(x.Place.High+1), up(s))) - 1
		tie(0, x.Splice+1, low, high)
	}
	for way := range many {
		for a := range many {
			for b := range many {
				most[a][b] = min(most[a][b], most[a][way]+most[way][b])
			}
		}
	}
	return most
}

// P7.10, P7.14: with large numbers; a truth that fits lies in Labels, none is wider with one more place that was seen, and without any it is the stand's.
func TestLargeLabels(t *testing.T) {
	r := rand.New(rand.NewSource(13))
	states := map[bool]int{}
	for range 3000 {
		s := largeStand(r)
		seen := someSeen(r, s, pick(r, 2, 12), pick(r, 0, 3, 1000, 100000))
		most := shortest(s, seen)
		labels, e := roll.Labels(s, seen)
		can := true
		for a := range most {
			can = can && most[a][a] == 0
		}
		states[can]++
		if (e == api.OK) != can || e != api.OK && (e != api.ErrState || len(labels) > 0) {
			t.Fatal(s, seen, labels, e, can)
		}
		if !can {
			continue
		}
		for i, x := range labels {
			if x != to(s.Tail-most[i+1][i], s.Tail+most[i][i+1]) {
				t.Error(s, seen, labels)
			}
		}
		if lengths := someTruth(r, s); fits(s, lengths, seen) && !within(lengths, labels) {
			t.Error(s, seen, labels, lengths)
		}
		for i := range seen {
			fewer, e := roll.Labels(s, seen[:i])
			if e != api.OK || len(fewer) != len(labels) || i == 0 && !slices.Equal(fewer, s.Rolls) {
				t.Fatal(s, seen, i, fewer, e)
			}
			for roll, x := range labels {
				if x.Low < fewer[roll].Low || x.High > fewer[roll].High {
					t.Error(s, seen, i, labels, fewer)
				}
			}
		}
	}
	if states[true] < 500 || states[false] < 200 {
		t.Error(states)
	}
}

// P7.14: if what was seen is true, the true lengths lie in Labels.
func TestTrueLabels(t *testing.T) {
	r := rand.New(rand.NewSource(14))
	for n := range 2000 {
		s := largeStand(r)
		if n%2 == 0 {
			s = someStand(r, 6)
		}
		lengths := someTruth(r, s)
		var seen []api.RollSeen
		for i, place := range truePlaces(s, lengths) {
			if r.Intn(3) > 0 {
				seen = append(seen, at(i, max(0, down(place)-r.Intn(3)), down(place)+r.Intn(3)))
			}
		}
		r.Shuffle(len(seen), func(i, j int) { seen[i], seen[j] = seen[j], seen[i] })
		if labels, e := roll.Labels(s, seen); e != api.OK || !within(lengths, labels) {
			t.Error(s, lengths, seen, labels, e)
		}
	}
}
