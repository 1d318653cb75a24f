package crush_test

import (
	"math"
	"math/big"
	"math/rand"
	"slices"
	"testing"

	"testliner/api"
	"testliner/crush"
)

// P3.5: the chapter's example, and the edges.
func TestStrength(t *testing.T) {
	for i, c := range []struct {
		b    api.CrushBox
		want api.Span
	}{
		{api.CrushBox{Edge: to(5000, 6000), Caliper: to(4000, 4200), Around: 1600, Rule: 587}, to(74226, 91290)},
		{api.CrushBox{Edge: to(5000, 5000), Caliper: to(4000, 4000), Around: 1600, Rule: 587}, at(74226)},
		{api.CrushBox{Edge: at(0), Caliper: to(1, 10000), Around: 20000, Rule: 1000}, at(0)},
		{api.CrushBox{Edge: to(0, 100000), Caliper: to(1, 10000), Around: 20000, Rule: 1000}, to(0, 14142000)},
		// The root of 1 to 3 is 1, that of 4 is 2.
		{api.CrushBox{Edge: at(100000), Caliper: at(1), Around: 1, Rule: 1}, at(1)},
		{api.CrushBox{Edge: at(99999), Caliper: at(1), Around: 1, Rule: 1}, at(0)},
		{api.CrushBox{Edge: at(100000), Caliper: to(1, 3), Around: 1, Rule: 1}, at(1)},
		{api.CrushBox{Edge: at(100000), Caliper: to(3, 4), Around: 1, Rule: 1}, to(1, 2)},
		{api.CrushBox{Edge: at(100000), Caliper: to(8, 9), Around: 1, Rule: 1}, to(2, 3)},
		{api.CrushBox{Edge: at(100000), Caliper: at(9999), Around: 10001, Rule: 1000}, at(9999000)},
		{api.CrushBox{Edge: at(100000), Caliper: at(10000), Around: 10000, Rule: 1000}, at(10000000)},
		// Nothing is rounded but the root and the end.
		{api.CrushBox{Edge: at(333), Caliper: at(100), Around: 100, Rule: 999}, at(332)},
	} {
		if s, e := crush.Strength(c.b); s != c.want || e != api.OK {
			t.Error(i, s, e)
		}
	}
}

// P3.5: the least and the greatest strength of all truths.
func TestStrengthTruths(t *testing.T) {
	r := rand.New(rand.NewSource(6))
	for range 500 {
		b := api.CrushBox{
			Edge:    someSpan(r, 0, pick(r, 30, api.MaxCrushRead), 4),
			Caliper: someSpan(r, 1, pick(r, 30, api.MaxCrushCaliper), 30),
			Around:  some(r, 1, pick(r, 30, api.MaxCrushAround)),
			Rule:    some(r, 1, api.MaxCrushRule),
		}
		least, most := math.MaxInt, math.MinInt
		for edge := b.Edge.Low; edge <= b.Edge.High; edge++ {
			for caliper := b.Caliper.Low; caliper <= b.Caliper.High; caliper++ {
				root := new(big.Int).Sqrt(big.NewInt(int64(caliper * b.Around)))
				strong := edge * int(root.Int64()) * b.Rule / 100000
				least, most = min(least, strong), max(most, strong)
			}
		}
		if s, e := crush.Strength(b); s != to(least, most) || e != api.OK {
			t.Fatal(b, s, e, least, most)
		}
	}
}

// P3.6: the chapter's example, and the edges.
func TestLoads(t *testing.T) {
	for i, c := range []struct {
		stack []api.CrushLoad
		loads []api.Span
	}{
		{slices.Repeat([]api.CrushLoad{box(300, 320, 100, 110)}, 3), []api.Span{to(200, 220), to(100, 110), at(0)}},
		{nil, nil},
		{[]api.CrushLoad{}, nil},
		{[]api.CrushLoad{box(0, 0, 7, 9)}, []api.Span{at(0)}},
		{[]api.CrushLoad{sure(0, 1), sure(0, 20), sure(0, 300), sure(0, 4000)}, []api.Span{at(4320), at(4300), at(4000), at(0)}},
		{[]api.CrushLoad{box(0, 9, 1, 2), box(0, 9, 0, 100000), box(0, 9, 5, 5)}, []api.Span{to(5, 100005), at(5), at(0)}},
	} {
		if loads, e := crush.Loads(c.stack); !slices.Equal(loads, c.loads) || e != api.OK {
			t.Error(i, loads, e)
		}
	}
	loads, e := crush.Loads(slices.Repeat([]api.CrushLoad{box(0, 0, 99999, 100000)}, api.MaxCrushHigh))
	if len(loads) != 50 || loads[0] != to(49*99999, 4900000) || loads[49] != at(0) || e != api.OK {
		t.Error(loads, e)
	}
}

// P3.7: the chapter's example, and the edges.
func TestFall(t *testing.T) {
	three := slices.Repeat([]api.CrushLoad{box(300, 320, 100, 110)}, 3)
	steps := func(l ...int) []api.CrushStep {
		var keep []api.CrushStep
		for i := 0; i < len(l); i += 2 {
			keep = append(keep, api.CrushStep{Day: l[i], Keep: l[i+1]})
		}
		return keep
	}
	for i, c := range []struct {
		stack          []api.CrushLoad
		keep           []api.CrushStep
		days, day, box int
		e              api.Errno
	}{
		{three, chapterTable(), 40, 30, 0, api.OK},
		{three, chapterTable(), 30, 30, 0, api.OK},
		{three, chapterTable(), 29, 0, 0, api.ErrNone},
		{three, chapterTable(), 10, 0, 0, api.ErrNone},
		{three, chapterTable(), 0, 0, 0, api.ErrNone},
		{nil, chapterTable(), 10000, 0, 0, api.ErrNone},
		// A box that bears nothing holds if nothing lies on it, or what weighs nothing.
		{[]api.CrushLoad{sure(0, 5)}, steps(0, 0), 10000, 0, 0, api.ErrNone},
		{[]api.CrushLoad{sure(9, 5), sure(0, 0)}, steps(0, 0), 10000, 0, 0, api.ErrNone},
		{[]api.CrushLoad{sure(9, 5), sure(0, 1)}, steps(0, 0), 10000, 0, 0, api.OK},
		{[]api.CrushLoad{sure(9, 5), box(0, 0, 0, 1)}, steps(0, 0), 0, 0, 0, api.OK},
		// A load of just what the box bears; rounded down.
		{[]api.CrushLoad{sure(5, 5), sure(0, 5)}, steps(0, 1000), 9, 0, 0, api.ErrNone},
		{[]api.CrushLoad{sure(5, 5), sure(0, 5)}, steps(0, 1000, 7, 999), 9, 7, 0, api.OK},
		{[]api.CrushLoad{sure(6, 5), sure(0, 5)}, steps(0, 1000, 7, 834), 9, 0, 0, api.ErrNone},
		{[]api.CrushLoad{sure(6, 5), sure(0, 5)}, steps(0, 1000, 7, 833), 9, 7, 0, api.OK},
		// The least strength, and the greatest weights count.
		{[]api.CrushLoad{box(5, 9, 5, 5), sure(0, 6)}, flat(), 0, 0, 0, api.OK},
		{[]api.CrushLoad{sure(5, 5), box(0, 0, 5, 6)}, flat(), 0, 0, 0, api.OK},
		{[]api.CrushLoad{box(5, 9, 5, 99), box(0, 9, 4, 5)}, flat(), 0, 0, 0, api.ErrNone},
		// The lowest box of those that do not hold on the first day, not one that fails later.
		{[]api.CrushLoad{sure(99, 9), sure(1, 9), sure(0, 9), sure(0, 9)}, flat(), 0, 0, 1, api.OK},
		{[]api.CrushLoad{sure(99, 9), sure(99, 9), sure(0, 9), sure(0, 9)}, flat(), 0, 0, 2, api.OK},
		{[]api.CrushLoad{sure(40, 9), sure(99, 9), sure(15, 9), sure(0, 9)}, steps(0, 1000, 5, 500, 6, 100), 9, 5, 0, api.OK},
		{[]api.CrushLoad{sure(60, 9), sure(99, 9), sure(15, 9), sure(0, 9)}, steps(0, 1000, 5, 500, 6, 100), 9, 5, 2, api.OK},
		// Two days on which nothing changes, and a table that goes to the last day.
		{[]api.CrushLoad{sure(20, 9), sure(0, 9)}, steps(0, 900, 3, 900, 4, 449), 9, 4, 0, api.OK},
		{[]api.CrushLoad{sure(20, 9), sure(0, 9)}, steps(0, 900, 10000, 449), 10000, 10000, 0, api.OK},
		{[]api.CrushLoad{sure(20, 9), sure(0, 9)}, steps(0, 900, 10000, 449), 9999, 0, 0, api.ErrNone},
		{[]api.CrushLoad{sure(20000000, 9), sure(0, 100000)}, steps(0, 1000, 1, 5, 2, 4), 3, 2, 0, api.OK},
	} {
		if day, box, e := crush.Fall(c.stack, c.keep, c.days); day != c.day || box != c.box || e != c.e {
			t.Error(i, day, box, e)
		}
	}
}

// P3.6, P3.7, P3.13: against all truths of small stacks, day by day.
func TestFallTruths(t *testing.T) {
	r := rand.New(rand.NewSource(7))
	fell := map[int]int{}
	for range 400 {
		stack, keep, days := someStack(r, 4), someTable(r), r.Intn(16)
		least, most := make([]int, len(stack)), make([]int, len(stack))
		for i := range least {
			least[i] = math.MaxInt
		}
		fails := make([]int, days+1)
		for day := range fails {
			fails[day] = len(stack)
		}
		eachTruth(stack, func(strong, heavy []int) {
			load := 0
			for i := len(stack) - 1; i >= 0; i-- {
				least[i], most[i] = min(least[i], load), max(most[i], load)
				load += heavy[i]
			}
			for day := range fails {
				fails[day] = min(fails[day], firstWeak(strong, heavy, keep, day))
			}
		})
		loads, e := crush.Loads(stack)
		if len(loads) != len(stack) || e != api.OK {
			t.Fatal(stack, loads, e)
		}
		for i := range loads {
			if loads[i] != to(least[i], most[i]) {
				t.Fatal(stack, loads, least, most)
			}
		}
		day, low, want := 0, 0, api.ErrNone
		if first := slices.IndexFunc(fails, func(at int) bool { return at < len(stack) }); first >= 0 {
			day, low, want = first, fails[first], api.OK
			fell[low]++
		} else {
			fell[-1]++
		}
		if gotDay, gotBox, e := crush.Fall(stack, keep, days); gotDay != day || gotBox != low || e != want {
			t.Fatal(stack, keep, days, gotDay, gotBox, e, day, low)
		}
		if want == api.ErrNone && len(stack) > 0 && !stands(stack[:len(stack)-1], chosen(1<<(len(stack)-1)-1), keep, days) {
			t.Fatal(stack, keep, days)
		}
	}
	if min(fell[-1], fell[0], fell[1], fell[2]) < 10 {
		t.Error(fell)
	}
}

// P3.8: the chapter's examples, and the edges.
func TestHigh(t *testing.T) {
	for i, c := range []struct {
		b    api.CrushLoad
		keep []api.CrushStep
		days int
		high int
	}{
		{box(300, 320, 100, 110), chapterTable(), 10, 3},
		{box(300, 320, 100, 110), chapterTable(), 30, 2},
		{box(300, 320, 100, 110), chapterTable(), 9, 3},
		{box(330, 330, 100, 110), chapterTable(), 9, 4},
		{box(330, 330, 100, 110), chapterTable(), 10, 3},
		{box(329, 10000, 100, 110), chapterTable(), 9, 3},
		{sure(0, 100000), flat(), 0, 1},
		{sure(0, 0), flat(), 0, 50},
		{sure(20000000, 0), []api.CrushStep{{Keep: 0}}, 10000, 50},
		{sure(20000000, 1), []api.CrushStep{{Keep: 0}}, 10000, 1},
		{box(0, 0, 0, 1), flat(), 0, 1},
		{sure(49, 1), flat(), 0, 50},
		{sure(48, 1), flat(), 0, 49},
		{sure(4900000, 100000), flat(), 0, 50},
		{sure(20000000, 100000), flat(), 0, 50},
		{sure(4899999, 100000), flat(), 0, 49},
	} {
		if high, e := crush.High(c.b, c.keep, c.days); high != c.high || e != api.OK {
			t.Error(i, high, e)
		}
	}
}

// P3.8, P3.14: so many boxes surely stand and no greater number does; with stronger or lighter boxes, or fewer days, it is not smaller.
func TestHighStands(t *testing.T) {
	r := rand.New(rand.NewSource(8))
	highs := map[int]bool{}
	for range 300 {
		b := api.CrushLoad{Strength: someSpan(r, 0, pick(r, 20, 400), 9), Weight: someSpan(r, 0, pick(r, 3, 20), 4)}
		keep, days := someTable(r), r.Intn(16)
		high, e := crush.High(b, keep, days)
		if e != api.OK {
			t.Fatal(b, keep, days, e)
		}
		highs[high] = true
		for many := 1; many <= api.MaxCrushHigh; many++ {
			if stands(slices.Repeat([]api.CrushLoad{b}, many), chosen(1<<many-1), keep, days) != (many <= high) {
				t.Fatal(b, keep, days, high, many)
			}
		}
		stronger, lighter := b, b
		stronger.Strength = to(b.Strength.Low+r.Intn(30), b.Strength.High+30)
		lighter.Weight = to(b.Weight.Low/2, b.Weight.High-r.Intn(b.Weight.High-b.Weight.Low/2+1))
		a, _ := crush.High(stronger, keep, days)
		l, _ := crush.High(lighter, keep, days)
		f, _ := crush.High(b, keep, r.Intn(days+1))
		if a < high || l < high || f < high {
			t.Fatal(b, keep, days, high, a, l, f)
		}
	}
	if len(highs) < 10 || !highs[1] || !highs[50] {
		t.Error(highs)
	}
}
