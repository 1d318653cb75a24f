package glue_test

import (
	"math/big"
	"math/rand"
	"slices"
	"testing"

	"testliner/api"
	"testliner/glue"
)

// P8.6: the chapter's example; rounding up, and the least and the greatest time.
func TestPressExamples(t *testing.T) {
	for i, c := range []struct {
		r     api.GlueRule
		room  api.GlueRoom
		times api.Span
	}{
		{rule(60, 10, 5), room(to(0, 10), to(20, 40)), to(60, 72)},
		{rule(60, 10, 5), room(to(10, 10), to(20, 20)), to(60, 60)},
		{rule(60, 10, 5), room(to(0, 0), to(0, 0)), to(60, 60)},
		{rule(600, 20, 20), room(to(0, 30), to(0, 100)), to(240, 1800)},
		{rule(600, 0, 20), room(to(0, 30), to(100, 100)), to(1800, 1800)},
		{rule(600, 20, 0), room(to(30, 30), to(0, 100)), to(240, 240)},
		{rule(1, 20, 0), room(to(0, 30), to(0, 100)), to(1, 1)},
		{rule(1, 0, 0), room(to(0, 30), to(0, 100)), to(1, 1)},
		// 6.993, 7.007, and just 7.
		{rule(7, 1, 1), room(to(1, 1), to(0, 0)), to(7, 7)},
		{rule(7, 1, 1), room(to(0, 0), to(1, 1)), to(8, 8)},
		{rule(7, 1, 1), room(to(3, 3), to(3, 3)), to(7, 7)},
		{rule(7, 1, 1), room(to(0, 1), to(0, 1)), to(7, 8)},
		// Just 6, then 59.5, and from 0.4 to 1.001.
		{rule(10, 20, 0), room(to(20, 20), to(0, 0)), to(6, 6)},
		{rule(119, 20, 1), room(to(25, 25), to(0, 0)), to(60, 60)},
		{rule(1, 20, 1), room(to(0, 30), to(0, 1)), to(1, 2)},
	} {
		if times, e := glue.Press(c.r, c.room); times != c.times || e != api.OK {
			t.Error(i, times, e)
		}
	}
}

// trueTime returns how long glue needs in one truth.
func trueTime(r api.GlueRule, warm, damp int) int {
	thousandths := big.NewRat(int64(1000-r.Degree*warm+r.Damp*damp), 1000)
	time := thousandths.Mul(thousandths, big.NewRat(int64(r.Minutes), 1))
	whole := new(big.Int).Div(time.Num(), time.Denom())
	if !time.IsInt() {
		whole.Add(whole, big.NewInt(1))
	}
	return int(whole.Int64())
}

// allTimes returns how long glue needs in each truth of a room.
func allTimes(r api.GlueRule, x api.GlueRoom) []int {
	var times []int
	for warm := x.Warm.Low; warm <= x.Warm.High; warm++ {
		for damp := x.Damp.Low; damp <= x.Damp.High; damp++ {
			times = append(times, trueTime(r, warm, damp))
		}
	}
	return times
}

// someRule returns a rule, someRoom a room.
func someRule(r *rand.Rand) api.GlueRule {
	return rule(pick(r, 1, 600, some(r, 1, 600), some(r, 1, 20)), pick(r, 0, 20, some(r, 0, 20)), pick(r, 0, 20, some(r, 0, 20)))
}

func someRoom(r *rand.Rand) api.GlueRoom {
	warm, damp := some(r, 0, 30), some(r, 0, 100)
	return room(to(warm, some(r, warm, 30)), to(damp, some(r, damp, min(100, damp+9))))
}

// P8.6, P8.7, P8.12: by all truths.
func TestPress(t *testing.T) {
	r := rand.New(rand.NewSource(9))
	for range 300 {
		x, of := someRule(r), someRoom(r)
		all := allTimes(x, of)
		times, e := glue.Press(x, of)
		if times != to(slices.Min(all), slices.Max(all)) || e != api.OK {
			t.Fatal(x, of, times, e, all)
		}
		// All minutes next to those times, with the room of each box.
		var pressed, surely, possibly []int
		for _, minutes := range list(0, times.Low-1, times.Low, times.Low+1, times.High-1, times.High, times.High+1, 2400, some(r, times.Low, times.High)) {
			opens := func(time int) bool { return minutes < time }
			if !slices.ContainsFunc(all, func(time int) bool { return !opens(time) }) {
				surely = append(surely, len(pressed))
			}
			if slices.ContainsFunc(all, opens) {
				possibly = append(possibly, len(pressed))
			}
			pressed = append(pressed, minutes)
		}
		a, b, e := glue.Open(x, slices.Repeat(list(of), len(pressed)), pressed)
		if !slices.Equal(a, surely) || !slices.Equal(b, possibly) || e != api.OK {
			t.Fatal(x, of, pressed, a, b, e, surely, possibly)
		}
	}
}

// P8.7: the chapter's example; each box in its own room.
func TestOpenExamples(t *testing.T) {
	warm, cold := room(to(0, 10), to(20, 40)), room(to(0, 0), to(100, 100))
	for i, c := range []struct {
		rooms            []api.GlueRoom
		pressed          []int
		surely, possibly []int
	}{
		{list(warm, warm, warm, warm), list(59, 60, 71, 72), list(0), list(0, 1, 2)},
		{list(cold, warm), list(60, 60), list(0), list(0, 1)},
		{list(warm, cold), list(60, 60), list(1), list(0, 1)},
		{list(cold, warm, cold, warm), list(90, 72, 89, 0), list(2, 3), list(2, 3)},
		{list(warm, cold), list(2400, 2400), nil, nil},
		{slices.Repeat(list(cold), 50), slices.Concat(make([]int, 1), slices.Repeat(list(90), 48), list(89)), list(0, 49), list(0, 49)},
		{nil, nil, nil, nil},
	} {
		surely, possibly, e := glue.Open(rule(60, 10, 5), c.rooms, c.pressed)
		if !slices.Equal(surely, c.surely) || !slices.Equal(possibly, c.possibly) || e != api.OK {
			t.Error(i, surely, possibly, e)
		}
	}
}

// within reports whether all numbers of a list are in another one.
func within(numbers, others []int) bool {
	return !slices.ContainsFunc(numbers, func(n int) bool { return !slices.Contains(others, n) })
}

// P8.12: a lot of boxes, each in a truth of its room; pressed for longer, and in warmer and drier rooms.
func TestLots(t *testing.T) {
	r := rand.New(rand.NewSource(10))
	for range 300 {
		x := someRule(r)
		var rooms, better []api.GlueRoom
		var pressed, longer, truly []int
		for box := range some(r, 1, 50) {
			of := someRoom(r)
			time := trueTime(x, some(r, of.Warm.Low, of.Warm.High), some(r, of.Damp.Low, of.Damp.High))
			times, e := glue.Press(x, of)
			if time < times.Low || time > times.High || e != api.OK {
				t.Fatal(x, of, time, times, e)
			}
			minutes := some(r, max(0, times.Low-3), times.High+3)
			if minutes < time {
				truly = append(truly, box)
			}
			rooms, pressed, longer = append(rooms, of), append(pressed, minutes), append(longer, some(r, minutes, 2400))
			warmer, drier := some(r, 0, 30-of.Warm.High), some(r, 0, of.Damp.Low)
			of = room(to(of.Warm.Low+warmer, of.Warm.High+warmer), to(of.Damp.Low-drier, of.Damp.High-drier))
			better = append(better, of)
			if now, e := glue.Press(x, of); now.Low > times.Low || now.High > times.High || e != api.OK {
				t.Fatal(x, of, times, now, e)
			}
		}
		surely, possibly, e := glue.Open(x, rooms, pressed)
		if !within(surely, truly) || !within(truly, possibly) || e != api.OK {
			t.Fatal(x, rooms, pressed, surely, truly, possibly, e)
		}
		fewer, left, e := glue.Open(x, rooms, longer)
		if !within(fewer, surely) || !within(left, possibly) || e != api.OK {
			t.Fatal(x, rooms, pressed, longer, surely, possibly, fewer, left, e)
		}
		fewer, left, e = glue.Open(x, better, pressed)
		if !within(fewer, surely) || !within(left, possibly) || e != api.OK {
			t.Fatal(x, rooms, better, pressed, surely, possibly, fewer, left, e)
		}
	}
}
