package reckon_test

import (
	"math"
	"math/rand"
	"testing"

	"testliner/api"
	"testliner/reckon"
)

func TestSum(t *testing.T) {
	for want, numbers := range map[int][]int{0: nil, -5: {-5}, 6: {1, 2, 3}, 4: {7, -4, 1, 0}, math.MaxInt: {math.MaxInt - 9, 4, 5}} {
		if got := reckon.Sum(numbers...); got != want {
			t.Error(numbers, got)
		}
	}
}

func TestUp(t *testing.T) {
	for i, c := range []struct{ n, by, up int }{
		{0, 1, 0}, {0, 7, 0}, {1, 7, 1}, {6, 7, 1}, {7, 7, 1}, {8, 7, 2}, {14, 7, 2}, {15, 7, 3}, {5, 1, 5}, {1, math.MaxInt, 1},
	} {
		if got := reckon.Up(c.n, c.by); got != c.up {
			t.Error(i, got)
		}
	}
}

func TestLowest(t *testing.T) {
	for i, c := range []struct {
		num, den int
		lowest   api.Ratio
	}{
		{0, 1, api.Ratio{Num: 0, Den: 1}},
		{0, 12, api.Ratio{Num: 0, Den: 1}},
		{1, 12, api.Ratio{Num: 1, Den: 12}},
		{8, 12, api.Ratio{Num: 2, Den: 3}},
		{12, 8, api.Ratio{Num: 3, Den: 2}},
		{24, 12, api.Ratio{Num: 2, Den: 1}},
		{7, 7, api.Ratio{Num: 1, Den: 1}},
		{math.MaxInt, math.MaxInt, api.Ratio{Num: 1, Den: 1}},
	} {
		if got := reckon.Lowest(c.num, c.den); got != c.lowest {
			t.Error(i, got)
		}
	}
	r := rand.New(rand.NewSource(1))
	for range 1000 {
		num, den := r.Intn(200), 1+r.Intn(200)
		got := reckon.Lowest(num, den)
		if got.Num*den != num*got.Den || got.Den < 1 {
			t.Error(num, den, got)
		}
		for by := 2; by <= 200; by++ {
			if got.Num%by == 0 && got.Den%by == 0 {
				t.Error(num, den, got, by)
			}
		}
	}
}
